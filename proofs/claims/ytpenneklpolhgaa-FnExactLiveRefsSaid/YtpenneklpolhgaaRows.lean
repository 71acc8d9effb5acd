/-
  No cell of these rows narrows 'for every input' (looked for: loops, veiled, ifaces, maps, wideKeys, modest, calm, conditions, laid).
  DERIVED. THE GIVEN ROWS OF THIS SEAT. 6 by the template 'for every input the law returns true; each argument reads behind the call as it read before'; 0 by the template 'total and deterministic' (their statements: YtpenneklpolhgaaTotals.lean).
  GIVEN WITH THE SEED: the statements are not yours to turn. If you find one false, say at which input.
  Laid BY PROGRAM, IN A SANDBOX (cutbox-rows.mjs): the forced cells as the released guide's own fill.sh prints them over the translation 609de1242620b359… (all of the seat's roots in one cut). By AI agents, Wed Nov 11 2026. No macro, syntax, notation, axiom, sorry.
-/
import Derived.Test.YtpenneklpolhgaaChecked
import GoSem.Claim
import GoSem.ClaimJoined
import GoSem.ClaimMapViews
import Derived.JoinedTies
import Derived.KernelRfl
namespace Go.Proofs.Ytpenneklpolhgaa
/- THE CELL 'sum', in the pinned program and in every row, IS THE sha256 OF THE DUMP (.gsa) THAT YtpenneklpolhgaaProg.lean LOADS. Nothing in Lean hashes anything: it is a label: what it is worth is what the hold of that sum in a sandbox is worth. -/
noncomputable def Try.pinned : Pinned := { name := "ytpenneklpolhgaa", sum := "609de1242620b3593c9d6695c306c0e938c79f8c648581bb32a99cb1d4b27bcf", checked := Try.checked }
namespace Rows
def none {H : Type} : Left H := { results := [], args := [] }

/-- 'laws.FnExactHeapOk': WHATEVER THE INPUT: true; the input reads as it did. -/
def fnExactHeapOkSpec : ChangeSpec := { name := "fnExactHeapOk", fn := fun _ => fun
  | [d] => { results := [.lit (.bool true)], args := [d] }
  | _ => none }
def fnExactHeapOkRow : OpenClaim := { program := "ytpenneklpolhgaa", sum := "609de1242620b3593c9d6695c306c0e938c79f8c648581bb32a99cb1d4b27bcf", func := "loop.example/g00712/laws.FnExactHeapOk", spec := "fnExactHeapOk", apart := false }
def FnExactHeapOkSaid : Prop := fnExactHeapOkRow.holds Try.pinned (OpenSpec.ofChange fnExactHeapOkSpec)

/-- ITS FALSE NEIGHBOUR: 'it returns false'. Refute it at one input. -/
def fnExactHeapOkWrong : ChangeSpec := { name := "fnExactHeapOk", fn := fun _ => fun
  | [d] => { results := [.lit (.bool false)], args := [d] }
  | _ => none }
def FnExactHeapOkWrongFalsely : Prop := fnExactHeapOkRow.holds Try.pinned (OpenSpec.ofChange fnExactHeapOkWrong)

/-- 'laws.FnExactNewHeap': WHATEVER THE INPUT: true; the input reads as it did. -/
def fnExactNewHeapSpec : ChangeSpec := { name := "fnExactNewHeap", fn := fun _ => fun
  | [d] => { results := [.lit (.bool true)], args := [d] }
  | _ => none }
def fnExactNewHeapRow : OpenClaim := { program := "ytpenneklpolhgaa", sum := "609de1242620b3593c9d6695c306c0e938c79f8c648581bb32a99cb1d4b27bcf", func := "loop.example/g00712/laws.FnExactNewHeap", spec := "fnExactNewHeap", apart := false }
def FnExactNewHeapSaid : Prop := fnExactNewHeapRow.holds Try.pinned (OpenSpec.ofChange fnExactNewHeapSpec)

/-- ITS FALSE NEIGHBOUR: 'it returns false'. Refute it at one input. -/
def fnExactNewHeapWrong : ChangeSpec := { name := "fnExactNewHeap", fn := fun _ => fun
  | [d] => { results := [.lit (.bool false)], args := [d] }
  | _ => none }
def FnExactNewHeapWrongFalsely : Prop := fnExactNewHeapRow.holds Try.pinned (OpenSpec.ofChange fnExactNewHeapWrong)

/-- 'laws.FnExactAllocObj': WHATEVER THE INPUT: true; the input reads as it did. -/
def fnExactAllocObjSpec : ChangeSpec := { name := "fnExactAllocObj", fn := fun _ => fun
  | [d] => { results := [.lit (.bool true)], args := [d] }
  | _ => none }
def fnExactAllocObjRow : OpenClaim := { program := "ytpenneklpolhgaa", sum := "609de1242620b3593c9d6695c306c0e938c79f8c648581bb32a99cb1d4b27bcf", func := "loop.example/g00712/laws.FnExactAllocObj", spec := "fnExactAllocObj", apart := false }
def FnExactAllocObjSaid : Prop := fnExactAllocObjRow.holds Try.pinned (OpenSpec.ofChange fnExactAllocObjSpec)

/-- ITS FALSE NEIGHBOUR: 'it returns false'. Refute it at one input. -/
def fnExactAllocObjWrong : ChangeSpec := { name := "fnExactAllocObj", fn := fun _ => fun
  | [d] => { results := [.lit (.bool false)], args := [d] }
  | _ => none }
def FnExactAllocObjWrongFalsely : Prop := fnExactAllocObjRow.holds Try.pinned (OpenSpec.ofChange fnExactAllocObjWrong)

/-- 'laws.FnExactGoodRef': WHATEVER THE INPUT: true; the input reads as it did. -/
def fnExactGoodRefSpec : ChangeSpec := { name := "fnExactGoodRef", fn := fun _ => fun
  | [d1, d2] => { results := [.lit (.bool true)], args := [d1, d2] }
  | _ => none }
def fnExactGoodRefRow : OpenClaim := { program := "ytpenneklpolhgaa", sum := "609de1242620b3593c9d6695c306c0e938c79f8c648581bb32a99cb1d4b27bcf", func := "loop.example/g00712/laws.FnExactGoodRef", spec := "fnExactGoodRef", apart := false }
def FnExactGoodRefSaid : Prop := fnExactGoodRefRow.holds Try.pinned (OpenSpec.ofChange fnExactGoodRefSpec)

/-- ITS FALSE NEIGHBOUR: 'it returns false'. Refute it at one input. -/
def fnExactGoodRefWrong : ChangeSpec := { name := "fnExactGoodRef", fn := fun _ => fun
  | [d1, d2] => { results := [.lit (.bool false)], args := [d1, d2] }
  | _ => none }
def FnExactGoodRefWrongFalsely : Prop := fnExactGoodRefRow.holds Try.pinned (OpenSpec.ofChange fnExactGoodRefWrong)

/-- 'laws.FnExactLiveRefs': WHATEVER THE INPUT: true; the input reads as it did. -/
def fnExactLiveRefsSpec : ChangeSpec := { name := "fnExactLiveRefs", fn := fun _ => fun
  | [d] => { results := [.lit (.bool true)], args := [d] }
  | _ => none }
def fnExactLiveRefsRow : OpenClaim := { program := "ytpenneklpolhgaa", sum := "609de1242620b3593c9d6695c306c0e938c79f8c648581bb32a99cb1d4b27bcf", func := "loop.example/g00712/laws.FnExactLiveRefs", spec := "fnExactLiveRefs", apart := false }
def FnExactLiveRefsSaid : Prop := fnExactLiveRefsRow.holds Try.pinned (OpenSpec.ofChange fnExactLiveRefsSpec)

/-- ITS FALSE NEIGHBOUR: 'it returns false'. Refute it at one input. -/
def fnExactLiveRefsWrong : ChangeSpec := { name := "fnExactLiveRefs", fn := fun _ => fun
  | [d] => { results := [.lit (.bool false)], args := [d] }
  | _ => none }
def FnExactLiveRefsWrongFalsely : Prop := fnExactLiveRefsRow.holds Try.pinned (OpenSpec.ofChange fnExactLiveRefsWrong)

/-- 'laws.FnExactReuses': WHATEVER THE INPUT: true; the input reads as it did. -/
def fnExactReusesSpec : ChangeSpec := { name := "fnExactReuses", fn := fun _ => fun
  | [d] => { results := [.lit (.bool true)], args := [d] }
  | _ => none }
def fnExactReusesRow : OpenClaim := { program := "ytpenneklpolhgaa", sum := "609de1242620b3593c9d6695c306c0e938c79f8c648581bb32a99cb1d4b27bcf", func := "loop.example/g00712/laws.FnExactReuses", spec := "fnExactReuses", apart := false }
def FnExactReusesSaid : Prop := fnExactReusesRow.holds Try.pinned (OpenSpec.ofChange fnExactReusesSpec)

/-- ITS FALSE NEIGHBOUR: 'it returns false'. Refute it at one input. -/
def fnExactReusesWrong : ChangeSpec := { name := "fnExactReuses", fn := fun _ => fun
  | [d] => { results := [.lit (.bool false)], args := [d] }
  | _ => none }
def FnExactReusesWrongFalsely : Prop := fnExactReusesRow.holds Try.pinned (OpenSpec.ofChange fnExactReusesWrong)

/- THE SECOND FORM. 'bulk': how many values and letters a reading holds, each counted each time it is reached (what is shared counts as often as it is met; a slice's spare places count too). A statement '..UptoSaid' is the law's where the arguments, and the package variables that the reading takes, are together of bulk at most 1048576: NARROWER than '..Said'. Prove '..Said' where nothing that the law and all that it calls make is longer than what came in: it says more and counts as full. Else prove '..UptoSaid'. A law counts once. -/
mutual
def uptoBulk {H : Type} : DataW H → Nat
  | .lit (.string bytes) => bytes.length + 1
  | .lit _ => 1
  | .nil => 1
  | .ptr d => uptoBulk d + 1
  | .slice elems spare => uptoBulkAll elems + uptoBulkAll spare + 1
  | .agg parts => uptoBulkAll parts + 1
  | .iface _ d => uptoBulk d + 1
  | .map entries => uptoBulkEntries entries + 1
  | .held _ => 1
def uptoBulkAll {H : Type} : List (DataW H) → Nat
  | [] => 0
  | d :: r => uptoBulk d + uptoBulkAll r
def uptoBulkEntries {H : Type} : List (Lit × DataW H) → Nat
  | [] => 0
  | x :: r => uptoBulkEntry x + uptoBulkEntries r
def uptoBulkEntry {H : Type} : Lit × DataW H → Nat
  | (.string bytes, d) => bytes.length + uptoBulk d + 1
  | (_, d) => uptoBulk d + 1
 end
def uptoSmall : (H : Type) → List (DataW H) → Bool := fun _ ds => decide (uptoBulkAll ds ≤ 1048576)
def OpenSpec.upto (s : _root_.Go.ChangeSpec) : _root_.Go.OpenSpec := { _root_.Go.OpenSpec.ofChange s with cond := some uptoSmall }

/-- 'laws.FnExactHeapOk', WHERE WHAT IT READS IS OF BULK AT MOST 1048576: true; the input reads as it did. -/
def fnExactHeapOkUptoRow : OpenClaim := { program := "ytpenneklpolhgaa", sum := "609de1242620b3593c9d6695c306c0e938c79f8c648581bb32a99cb1d4b27bcf", func := "loop.example/g00712/laws.FnExactHeapOk", spec := "fnExactHeapOk", apart := false, narrowed := true }
def FnExactHeapOkUptoSaid : Prop := fnExactHeapOkUptoRow.holds Try.pinned (OpenSpec.upto fnExactHeapOkSpec)

/-- 'laws.FnExactNewHeap', WHERE WHAT IT READS IS OF BULK AT MOST 1048576: true; the input reads as it did. -/
def fnExactNewHeapUptoRow : OpenClaim := { program := "ytpenneklpolhgaa", sum := "609de1242620b3593c9d6695c306c0e938c79f8c648581bb32a99cb1d4b27bcf", func := "loop.example/g00712/laws.FnExactNewHeap", spec := "fnExactNewHeap", apart := false, narrowed := true }
def FnExactNewHeapUptoSaid : Prop := fnExactNewHeapUptoRow.holds Try.pinned (OpenSpec.upto fnExactNewHeapSpec)

/-- 'laws.FnExactAllocObj', WHERE WHAT IT READS IS OF BULK AT MOST 1048576: true; the input reads as it did. -/
def fnExactAllocObjUptoRow : OpenClaim := { program := "ytpenneklpolhgaa", sum := "609de1242620b3593c9d6695c306c0e938c79f8c648581bb32a99cb1d4b27bcf", func := "loop.example/g00712/laws.FnExactAllocObj", spec := "fnExactAllocObj", apart := false, narrowed := true }
def FnExactAllocObjUptoSaid : Prop := fnExactAllocObjUptoRow.holds Try.pinned (OpenSpec.upto fnExactAllocObjSpec)

/-- 'laws.FnExactGoodRef', WHERE WHAT IT READS IS OF BULK AT MOST 1048576: true; the input reads as it did. -/
def fnExactGoodRefUptoRow : OpenClaim := { program := "ytpenneklpolhgaa", sum := "609de1242620b3593c9d6695c306c0e938c79f8c648581bb32a99cb1d4b27bcf", func := "loop.example/g00712/laws.FnExactGoodRef", spec := "fnExactGoodRef", apart := false, narrowed := true }
def FnExactGoodRefUptoSaid : Prop := fnExactGoodRefUptoRow.holds Try.pinned (OpenSpec.upto fnExactGoodRefSpec)

/-- 'laws.FnExactLiveRefs', WHERE WHAT IT READS IS OF BULK AT MOST 1048576: true; the input reads as it did. -/
def fnExactLiveRefsUptoRow : OpenClaim := { program := "ytpenneklpolhgaa", sum := "609de1242620b3593c9d6695c306c0e938c79f8c648581bb32a99cb1d4b27bcf", func := "loop.example/g00712/laws.FnExactLiveRefs", spec := "fnExactLiveRefs", apart := false, narrowed := true }
def FnExactLiveRefsUptoSaid : Prop := fnExactLiveRefsUptoRow.holds Try.pinned (OpenSpec.upto fnExactLiveRefsSpec)

/-- 'laws.FnExactReuses', WHERE WHAT IT READS IS OF BULK AT MOST 1048576: true; the input reads as it did. -/
def fnExactReusesUptoRow : OpenClaim := { program := "ytpenneklpolhgaa", sum := "609de1242620b3593c9d6695c306c0e938c79f8c648581bb32a99cb1d4b27bcf", func := "loop.example/g00712/laws.FnExactReuses", spec := "fnExactReuses", apart := false, narrowed := true }
def FnExactReusesUptoSaid : Prop := fnExactReusesUptoRow.holds Try.pinned (OpenSpec.upto fnExactReusesSpec)

end Rows
end Go.Proofs.Ytpenneklpolhgaa
