/-
  No cell of these rows narrows 'for every input' (looked for: loops, veiled, ifaces, maps, wideKeys, modest, calm, conditions, laid).
  DERIVED. THE GIVEN ROWS OF THIS SEAT. 7 by the template 'for every input the law returns true; each argument reads behind the call as it read before'; 0 by the template 'total and deterministic' (their statements: YtgbgjlmkmlhefaaTotals.lean).
  GIVEN WITH THE SEED: the statements are not yours to turn. If you find one false, say at which input.
  Laid BY PROGRAM, IN A SANDBOX (cutbox-rows.mjs): the forced cells as the released guide's own fill.sh prints them over the translation 88fedc739734a565… (all of the seat's roots in one cut). By AI agents, Wed Nov 11 2026. No macro, syntax, notation, axiom, sorry.
-/
import Derived.Test.YtgbgjlmkmlhefaaChecked
import GoSem.Claim
import GoSem.ClaimJoined
import GoSem.ClaimMapViews
import Derived.JoinedTies
import Derived.KernelRfl
namespace Go.Proofs.Ytgbgjlmkmlhefaa
/- THE CELL 'sum', in the pinned program and in every row, IS THE sha256 OF THE DUMP (.gsa) THAT YtgbgjlmkmlhefaaProg.lean LOADS. Nothing in Lean hashes anything: it is a label: what it is worth is what the hold of that sum in a sandbox is worth. -/
noncomputable def Try.pinned : Pinned := { name := "ytgbgjlmkmlhefaa", sum := "88fedc739734a565ee899468d636e009debb4f27b1c6e84bb1a7d663049d5a3a", checked := Try.checked }
namespace Rows
def none {H : Type} : Left H := { results := [], args := [] }

/-- 'laws.FnExactSpotOk': WHATEVER THE INPUT: true; the input reads as it did. -/
def fnExactSpotOkSpec : ChangeSpec := { name := "fnExactSpotOk", fn := fun _ => fun
  | [d1, d2] => { results := [.lit (.bool true)], args := [d1, d2] }
  | _ => none }
def fnExactSpotOkRow : OpenClaim := { program := "ytgbgjlmkmlhefaa", sum := "88fedc739734a565ee899468d636e009debb4f27b1c6e84bb1a7d663049d5a3a", func := "loop.example/g00712/laws.FnExactSpotOk", spec := "fnExactSpotOk", apart := false }
def FnExactSpotOkSaid : Prop := fnExactSpotOkRow.holds Try.pinned (OpenSpec.ofChange fnExactSpotOkSpec)

/-- ITS FALSE NEIGHBOUR: 'it returns false'. Refute it at one input. -/
def fnExactSpotOkWrong : ChangeSpec := { name := "fnExactSpotOk", fn := fun _ => fun
  | [d1, d2] => { results := [.lit (.bool false)], args := [d1, d2] }
  | _ => none }
def FnExactSpotOkWrongFalsely : Prop := fnExactSpotOkRow.holds Try.pinned (OpenSpec.ofChange fnExactSpotOkWrong)

/-- 'laws.FnExactPutFences': WHATEVER THE INPUT: true; the input reads as it did. -/
def fnExactPutFencesSpec : ChangeSpec := { name := "fnExactPutFences", fn := fun _ => fun
  | [d1, d2] => { results := [.lit (.bool true)], args := [d1, d2] }
  | _ => none }
def fnExactPutFencesRow : OpenClaim := { program := "ytgbgjlmkmlhefaa", sum := "88fedc739734a565ee899468d636e009debb4f27b1c6e84bb1a7d663049d5a3a", func := "loop.example/g00712/laws.FnExactPutFences", spec := "fnExactPutFences", unfollowed := true, recurses := true, apart := false }
def FnExactPutFencesSaid : Prop := fnExactPutFencesRow.holds Try.pinned (OpenSpec.ofChange fnExactPutFencesSpec)

/-- ITS FALSE NEIGHBOUR: 'it returns false'. Refute it at one input. -/
def fnExactPutFencesWrong : ChangeSpec := { name := "fnExactPutFences", fn := fun _ => fun
  | [d1, d2] => { results := [.lit (.bool false)], args := [d1, d2] }
  | _ => none }
def FnExactPutFencesWrongFalsely : Prop := fnExactPutFencesRow.holds Try.pinned (OpenSpec.ofChange fnExactPutFencesWrong)

/-- 'laws.FnExactSpotsOf': WHATEVER THE INPUT: true; the input reads as it did. -/
def fnExactSpotsOfSpec : ChangeSpec := { name := "fnExactSpotsOf", fn := fun _ => fun
  | [d] => { results := [.lit (.bool true)], args := [d] }
  | _ => none }
def fnExactSpotsOfRow : OpenClaim := { program := "ytgbgjlmkmlhefaa", sum := "88fedc739734a565ee899468d636e009debb4f27b1c6e84bb1a7d663049d5a3a", func := "loop.example/g00712/laws.FnExactSpotsOf", spec := "fnExactSpotsOf", apart := false }
def FnExactSpotsOfSaid : Prop := fnExactSpotsOfRow.holds Try.pinned (OpenSpec.ofChange fnExactSpotsOfSpec)

/-- ITS FALSE NEIGHBOUR: 'it returns false'. Refute it at one input. -/
def fnExactSpotsOfWrong : ChangeSpec := { name := "fnExactSpotsOf", fn := fun _ => fun
  | [d] => { results := [.lit (.bool false)], args := [d] }
  | _ => none }
def FnExactSpotsOfWrongFalsely : Prop := fnExactSpotsOfRow.holds Try.pinned (OpenSpec.ofChange fnExactSpotsOfWrong)

/-- 'laws.FnExactFenceCost': WHATEVER THE INPUT: true; the input reads as it did. -/
def fnExactFenceCostSpec : ChangeSpec := { name := "fnExactFenceCost", fn := fun _ => fun
  | [d] => { results := [.lit (.bool true)], args := [d] }
  | _ => none }
def fnExactFenceCostRow : OpenClaim := { program := "ytgbgjlmkmlhefaa", sum := "88fedc739734a565ee899468d636e009debb4f27b1c6e84bb1a7d663049d5a3a", func := "loop.example/g00712/laws.FnExactFenceCost", spec := "fnExactFenceCost", apart := false }
def FnExactFenceCostSaid : Prop := fnExactFenceCostRow.holds Try.pinned (OpenSpec.ofChange fnExactFenceCostSpec)

/-- ITS FALSE NEIGHBOUR: 'it returns false'. Refute it at one input. -/
def fnExactFenceCostWrong : ChangeSpec := { name := "fnExactFenceCost", fn := fun _ => fun
  | [d] => { results := [.lit (.bool false)], args := [d] }
  | _ => none }
def FnExactFenceCostWrongFalsely : Prop := fnExactFenceCostRow.holds Try.pinned (OpenSpec.ofChange fnExactFenceCostWrong)

/-- 'laws.FnExactStripFences': WHATEVER THE INPUT: true; the input reads as it did. -/
def fnExactStripFencesSpec : ChangeSpec := { name := "fnExactStripFences", fn := fun _ => fun
  | [d] => { results := [.lit (.bool true)], args := [d] }
  | _ => none }
def fnExactStripFencesRow : OpenClaim := { program := "ytgbgjlmkmlhefaa", sum := "88fedc739734a565ee899468d636e009debb4f27b1c6e84bb1a7d663049d5a3a", func := "loop.example/g00712/laws.FnExactStripFences", spec := "fnExactStripFences", unfollowed := true, recurses := true, apart := false }
def FnExactStripFencesSaid : Prop := fnExactStripFencesRow.holds Try.pinned (OpenSpec.ofChange fnExactStripFencesSpec)

/-- ITS FALSE NEIGHBOUR: 'it returns false'. Refute it at one input. -/
def fnExactStripFencesWrong : ChangeSpec := { name := "fnExactStripFences", fn := fun _ => fun
  | [d] => { results := [.lit (.bool false)], args := [d] }
  | _ => none }
def FnExactStripFencesWrongFalsely : Prop := fnExactStripFencesRow.holds Try.pinned (OpenSpec.ofChange fnExactStripFencesWrong)

/-- 'laws.FnStripped': WHATEVER THE INPUT: true; the input reads as it did. -/
def fnStrippedSpec : ChangeSpec := { name := "fnStripped", fn := fun _ => fun
  | [d] => { results := [.lit (.bool true)], args := [d] }
  | _ => none }
def fnStrippedRow : OpenClaim := { program := "ytgbgjlmkmlhefaa", sum := "88fedc739734a565ee899468d636e009debb4f27b1c6e84bb1a7d663049d5a3a", func := "loop.example/g00712/laws.FnStripped", spec := "fnStripped", unfollowed := true, recurses := true, apart := false }
def FnStrippedSaid : Prop := fnStrippedRow.holds Try.pinned (OpenSpec.ofChange fnStrippedSpec)

/-- ITS FALSE NEIGHBOUR: 'it returns false'. Refute it at one input. -/
def fnStrippedWrong : ChangeSpec := { name := "fnStripped", fn := fun _ => fun
  | [d] => { results := [.lit (.bool false)], args := [d] }
  | _ => none }
def FnStrippedWrongFalsely : Prop := fnStrippedRow.holds Try.pinned (OpenSpec.ofChange fnStrippedWrong)

/-- 'laws.FnExactWithFences': WHATEVER THE INPUT: true; the input reads as it did. -/
def fnExactWithFencesSpec : ChangeSpec := { name := "fnExactWithFences", fn := fun _ => fun
  | [d] => { results := [.lit (.bool true)], args := [d] }
  | _ => none }
def fnExactWithFencesRow : OpenClaim := { program := "ytgbgjlmkmlhefaa", sum := "88fedc739734a565ee899468d636e009debb4f27b1c6e84bb1a7d663049d5a3a", func := "loop.example/g00712/laws.FnExactWithFences", spec := "fnExactWithFences", unfollowed := true, recurses := true, apart := false }
def FnExactWithFencesSaid : Prop := fnExactWithFencesRow.holds Try.pinned (OpenSpec.ofChange fnExactWithFencesSpec)

/-- ITS FALSE NEIGHBOUR: 'it returns false'. Refute it at one input. -/
def fnExactWithFencesWrong : ChangeSpec := { name := "fnExactWithFences", fn := fun _ => fun
  | [d] => { results := [.lit (.bool false)], args := [d] }
  | _ => none }
def FnExactWithFencesWrongFalsely : Prop := fnExactWithFencesRow.holds Try.pinned (OpenSpec.ofChange fnExactWithFencesWrong)

/- THE SECOND FORM. 'bulk': how many values and letters a reading holds, each counted each time it is reached (what is shared counts as often as it is met; a slice's spare places count too). A statement '..UptoSaid' is the law's where the arguments, and the package variables that the reading takes, are together of bulk at most 1048576: NARROWER than '..Said'. Prove '..Said' where nothing that the law and all that it calls make is longer than what came in: it says more and counts as full. Else prove '..UptoSaid'. A law counts once. -/
mutual
def uptoBulk {H : Type} : DataW H → Nat
  | .lit (.string bytes) => bytes.length + 1
  | .lit _ => 1
  | .nil => 1
  | .ptr d => uptoBulk d + 1
  | .slice elems spare => uptoBulkAll elems + uptoBulkAll spare + 1
  | .agg parts => uptoBulkAll parts + 1
  | .iface _ d => uptoBulk d + 1
  | .map entries => uptoBulkEntries entries + 1
  | .held _ => 1
def uptoBulkAll {H : Type} : List (DataW H) → Nat
  | [] => 0
  | d :: r => uptoBulk d + uptoBulkAll r
def uptoBulkEntries {H : Type} : List (Lit × DataW H) → Nat
  | [] => 0
  | x :: r => uptoBulkEntry x + uptoBulkEntries r
def uptoBulkEntry {H : Type} : Lit × DataW H → Nat
  | (.string bytes, d) => bytes.length + uptoBulk d + 1
  | (_, d) => uptoBulk d + 1
 end
def uptoSmall : (H : Type) → List (DataW H) → Bool := fun _ ds => decide (uptoBulkAll ds ≤ 1048576)
def OpenSpec.upto (s : _root_.Go.ChangeSpec) : _root_.Go.OpenSpec := { _root_.Go.OpenSpec.ofChange s with cond := some uptoSmall }

/-- 'laws.FnExactSpotOk', WHERE WHAT IT READS IS OF BULK AT MOST 1048576: true; the input reads as it did. -/
def fnExactSpotOkUptoRow : OpenClaim := { program := "ytgbgjlmkmlhefaa", sum := "88fedc739734a565ee899468d636e009debb4f27b1c6e84bb1a7d663049d5a3a", func := "loop.example/g00712/laws.FnExactSpotOk", spec := "fnExactSpotOk", apart := false, narrowed := true }
def FnExactSpotOkUptoSaid : Prop := fnExactSpotOkUptoRow.holds Try.pinned (OpenSpec.upto fnExactSpotOkSpec)

/-- 'laws.FnExactPutFences', WHERE WHAT IT READS IS OF BULK AT MOST 1048576: true; the input reads as it did. -/
def fnExactPutFencesUptoRow : OpenClaim := { program := "ytgbgjlmkmlhefaa", sum := "88fedc739734a565ee899468d636e009debb4f27b1c6e84bb1a7d663049d5a3a", func := "loop.example/g00712/laws.FnExactPutFences", spec := "fnExactPutFences", unfollowed := true, recurses := true, apart := false, narrowed := true }
def FnExactPutFencesUptoSaid : Prop := fnExactPutFencesUptoRow.holds Try.pinned (OpenSpec.upto fnExactPutFencesSpec)

/-- 'laws.FnExactSpotsOf', WHERE WHAT IT READS IS OF BULK AT MOST 1048576: true; the input reads as it did. -/
def fnExactSpotsOfUptoRow : OpenClaim := { program := "ytgbgjlmkmlhefaa", sum := "88fedc739734a565ee899468d636e009debb4f27b1c6e84bb1a7d663049d5a3a", func := "loop.example/g00712/laws.FnExactSpotsOf", spec := "fnExactSpotsOf", apart := false, narrowed := true }
def FnExactSpotsOfUptoSaid : Prop := fnExactSpotsOfUptoRow.holds Try.pinned (OpenSpec.upto fnExactSpotsOfSpec)

/-- 'laws.FnExactFenceCost', WHERE WHAT IT READS IS OF BULK AT MOST 1048576: true; the input reads as it did. -/
def fnExactFenceCostUptoRow : OpenClaim := { program := "ytgbgjlmkmlhefaa", sum := "88fedc739734a565ee899468d636e009debb4f27b1c6e84bb1a7d663049d5a3a", func := "loop.example/g00712/laws.FnExactFenceCost", spec := "fnExactFenceCost", apart := false, narrowed := true }
def FnExactFenceCostUptoSaid : Prop := fnExactFenceCostUptoRow.holds Try.pinned (OpenSpec.upto fnExactFenceCostSpec)

/-- 'laws.FnExactStripFences', WHERE WHAT IT READS IS OF BULK AT MOST 1048576: true; the input reads as it did. -/
def fnExactStripFencesUptoRow : OpenClaim := { program := "ytgbgjlmkmlhefaa", sum := "88fedc739734a565ee899468d636e009debb4f27b1c6e84bb1a7d663049d5a3a", func := "loop.example/g00712/laws.FnExactStripFences", spec := "fnExactStripFences", unfollowed := true, recurses := true, apart := false, narrowed := true }
def FnExactStripFencesUptoSaid : Prop := fnExactStripFencesUptoRow.holds Try.pinned (OpenSpec.upto fnExactStripFencesSpec)

/-- 'laws.FnStripped', WHERE WHAT IT READS IS OF BULK AT MOST 1048576: true; the input reads as it did. -/
def fnStrippedUptoRow : OpenClaim := { program := "ytgbgjlmkmlhefaa", sum := "88fedc739734a565ee899468d636e009debb4f27b1c6e84bb1a7d663049d5a3a", func := "loop.example/g00712/laws.FnStripped", spec := "fnStripped", unfollowed := true, recurses := true, apart := false, narrowed := true }
def FnStrippedUptoSaid : Prop := fnStrippedUptoRow.holds Try.pinned (OpenSpec.upto fnStrippedSpec)

/-- 'laws.FnExactWithFences', WHERE WHAT IT READS IS OF BULK AT MOST 1048576: true; the input reads as it did. -/
def fnExactWithFencesUptoRow : OpenClaim := { program := "ytgbgjlmkmlhefaa", sum := "88fedc739734a565ee899468d636e009debb4f27b1c6e84bb1a7d663049d5a3a", func := "loop.example/g00712/laws.FnExactWithFences", spec := "fnExactWithFences", unfollowed := true, recurses := true, apart := false, narrowed := true }
def FnExactWithFencesUptoSaid : Prop := fnExactWithFencesUptoRow.holds Try.pinned (OpenSpec.upto fnExactWithFencesSpec)

end Rows
end Go.Proofs.Ytgbgjlmkmlhefaa
