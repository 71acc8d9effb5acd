/-
  No cell of these rows narrows 'for every input' (looked for: loops, veiled, ifaces, maps, wideKeys, modest, calm, conditions, laid).
  DERIVED. THE GIVEN ROWS OF THIS SEAT. 7 by the template 'for every input the law returns true; each argument reads behind the call as it read before'; 0 by the template 'total and deterministic' (their statements: YtmickgldnfkiiaaTotals.lean).
  GIVEN WITH THE SEED: the statements are not yours to turn. If you find one false, say at which input.
  Laid BY PROGRAM, IN A SANDBOX (cutbox-rows.mjs): the forced cells as the released guide's own fill.sh prints them over the translation 63db579a3a3bb20c… (all of the seat's roots in one cut). By AI agents, Wed Nov 11 2026. No macro, syntax, notation, axiom, sorry.
-/
import Derived.Test.YtmickgldnfkiiaaChecked
import GoSem.Claim
import GoSem.ClaimJoined
import GoSem.ClaimMapViews
import Derived.JoinedTies
import Derived.KernelRfl
namespace Go.Proofs.Ytmickgldnfkiiaa
/- THE CELL 'sum', in the pinned program and in every row, IS THE sha256 OF THE DUMP (.gsa) THAT YtmickgldnfkiiaaProg.lean LOADS. Nothing in Lean hashes anything: it is a label: what it is worth is what the hold of that sum in a sandbox is worth. -/
noncomputable def Try.pinned : Pinned := { name := "ytmickgldnfkiiaa", sum := "63db579a3a3bb20c5402ebfc8d7161ddbc2db896dd85585cee5153441f846e0a", checked := Try.checked }
namespace Rows
def none {H : Type} : Left H := { results := [], args := [] }

/-- 'laws.FnBuffers': WHATEVER THE INPUT: true; the input reads as it did. -/
def fnBuffersSpec : ChangeSpec := { name := "fnBuffers", fn := fun _ => fun
  | [d] => { results := [.lit (.bool true)], args := [d] }
  | _ => none }
def fnBuffersRow : OpenClaim := { program := "ytmickgldnfkiiaa", sum := "63db579a3a3bb20c5402ebfc8d7161ddbc2db896dd85585cee5153441f846e0a", func := "loop.example/g00712/laws.FnBuffers", spec := "fnBuffers", unfollowed := true, recurses := true, apart := false }
def FnBuffersSaid : Prop := fnBuffersRow.holds Try.pinned (OpenSpec.ofChange fnBuffersSpec)

/-- ITS FALSE NEIGHBOUR: 'it returns false'. Refute it at one input. -/
def fnBuffersWrong : ChangeSpec := { name := "fnBuffers", fn := fun _ => fun
  | [d] => { results := [.lit (.bool false)], args := [d] }
  | _ => none }
def FnBuffersWrongFalsely : Prop := fnBuffersRow.holds Try.pinned (OpenSpec.ofChange fnBuffersWrong)

/-- 'laws.FnExactBufOk': WHATEVER THE INPUT: true; the input reads as it did. -/
def fnExactBufOkSpec : ChangeSpec := { name := "fnExactBufOk", fn := fun _ => fun
  | [d] => { results := [.lit (.bool true)], args := [d] }
  | _ => none }
def fnExactBufOkRow : OpenClaim := { program := "ytmickgldnfkiiaa", sum := "63db579a3a3bb20c5402ebfc8d7161ddbc2db896dd85585cee5153441f846e0a", func := "loop.example/g00712/laws.FnExactBufOk", spec := "fnExactBufOk", apart := false }
def FnExactBufOkSaid : Prop := fnExactBufOkRow.holds Try.pinned (OpenSpec.ofChange fnExactBufOkSpec)

/-- ITS FALSE NEIGHBOUR: 'it returns false'. Refute it at one input. -/
def fnExactBufOkWrong : ChangeSpec := { name := "fnExactBufOk", fn := fun _ => fun
  | [d] => { results := [.lit (.bool false)], args := [d] }
  | _ => none }
def FnExactBufOkWrongFalsely : Prop := fnExactBufOkRow.holds Try.pinned (OpenSpec.ofChange fnExactBufOkWrong)

/-- 'laws.FnExactPutSlot': WHATEVER THE INPUT: true; the input reads as it did. -/
def fnExactPutSlotSpec : ChangeSpec := { name := "fnExactPutSlot", fn := fun _ => fun
  | [d1, d2, d3] => { results := [.lit (.bool true)], args := [d1, d2, d3] }
  | _ => none }
def fnExactPutSlotRow : OpenClaim := { program := "ytmickgldnfkiiaa", sum := "63db579a3a3bb20c5402ebfc8d7161ddbc2db896dd85585cee5153441f846e0a", func := "loop.example/g00712/laws.FnExactPutSlot", spec := "fnExactPutSlot", apart := false }
def FnExactPutSlotSaid : Prop := fnExactPutSlotRow.holds Try.pinned (OpenSpec.ofChange fnExactPutSlotSpec)

/-- ITS FALSE NEIGHBOUR: 'it returns false'. Refute it at one input. -/
def fnExactPutSlotWrong : ChangeSpec := { name := "fnExactPutSlot", fn := fun _ => fun
  | [d1, d2, d3] => { results := [.lit (.bool false)], args := [d1, d2, d3] }
  | _ => none }
def FnExactPutSlotWrongFalsely : Prop := fnExactPutSlotRow.holds Try.pinned (OpenSpec.ofChange fnExactPutSlotWrong)

/-- 'laws.FnExactDrainOne': WHATEVER THE INPUT: true; the input reads as it did. -/
def fnExactDrainOneSpec : ChangeSpec := { name := "fnExactDrainOne", fn := fun _ => fun
  | [d1, d2] => { results := [.lit (.bool true)], args := [d1, d2] }
  | _ => none }
def fnExactDrainOneRow : OpenClaim := { program := "ytmickgldnfkiiaa", sum := "63db579a3a3bb20c5402ebfc8d7161ddbc2db896dd85585cee5153441f846e0a", func := "loop.example/g00712/laws.FnExactDrainOne", spec := "fnExactDrainOne", apart := false }
def FnExactDrainOneSaid : Prop := fnExactDrainOneRow.holds Try.pinned (OpenSpec.ofChange fnExactDrainOneSpec)

/-- ITS FALSE NEIGHBOUR: 'it returns false'. Refute it at one input. -/
def fnExactDrainOneWrong : ChangeSpec := { name := "fnExactDrainOne", fn := fun _ => fun
  | [d1, d2] => { results := [.lit (.bool false)], args := [d1, d2] }
  | _ => none }
def FnExactDrainOneWrongFalsely : Prop := fnExactDrainOneRow.holds Try.pinned (OpenSpec.ofChange fnExactDrainOneWrong)

/-- 'laws.FnExactDrainAll': WHATEVER THE INPUT: true; the input reads as it did. -/
def fnExactDrainAllSpec : ChangeSpec := { name := "fnExactDrainAll", fn := fun _ => fun
  | [d1, d2] => { results := [.lit (.bool true)], args := [d1, d2] }
  | _ => none }
def fnExactDrainAllRow : OpenClaim := { program := "ytmickgldnfkiiaa", sum := "63db579a3a3bb20c5402ebfc8d7161ddbc2db896dd85585cee5153441f846e0a", func := "loop.example/g00712/laws.FnExactDrainAll", spec := "fnExactDrainAll", apart := false }
def FnExactDrainAllSaid : Prop := fnExactDrainAllRow.holds Try.pinned (OpenSpec.ofChange fnExactDrainAllSpec)

/-- ITS FALSE NEIGHBOUR: 'it returns false'. Refute it at one input. -/
def fnExactDrainAllWrong : ChangeSpec := { name := "fnExactDrainAll", fn := fun _ => fun
  | [d1, d2] => { results := [.lit (.bool false)], args := [d1, d2] }
  | _ => none }
def FnExactDrainAllWrongFalsely : Prop := fnExactDrainAllRow.holds Try.pinned (OpenSpec.ofChange fnExactDrainAllWrong)

/-- 'laws.FnExactReadThrough': WHATEVER THE INPUT: true; the input reads as it did. -/
def fnExactReadThroughSpec : ChangeSpec := { name := "fnExactReadThrough", fn := fun _ => fun
  | [d1, d2, d3] => { results := [.lit (.bool true)], args := [d1, d2, d3] }
  | _ => none }
def fnExactReadThroughRow : OpenClaim := { program := "ytmickgldnfkiiaa", sum := "63db579a3a3bb20c5402ebfc8d7161ddbc2db896dd85585cee5153441f846e0a", func := "loop.example/g00712/laws.FnExactReadThrough", spec := "fnExactReadThrough", unfollowed := true, recurses := true, apart := false }
def FnExactReadThroughSaid : Prop := fnExactReadThroughRow.holds Try.pinned (OpenSpec.ofChange fnExactReadThroughSpec)

/-- ITS FALSE NEIGHBOUR: 'it returns false'. Refute it at one input. -/
def fnExactReadThroughWrong : ChangeSpec := { name := "fnExactReadThrough", fn := fun _ => fun
  | [d1, d2, d3] => { results := [.lit (.bool false)], args := [d1, d2, d3] }
  | _ => none }
def FnExactReadThroughWrongFalsely : Prop := fnExactReadThroughRow.holds Try.pinned (OpenSpec.ofChange fnExactReadThroughWrong)

/-- 'laws.FnExactWaits': WHATEVER THE INPUT: true; the input reads as it did. -/
def fnExactWaitsSpec : ChangeSpec := { name := "fnExactWaits", fn := fun _ => fun
  | [d1, d2] => { results := [.lit (.bool true)], args := [d1, d2] }
  | _ => none }
def fnExactWaitsRow : OpenClaim := { program := "ytmickgldnfkiiaa", sum := "63db579a3a3bb20c5402ebfc8d7161ddbc2db896dd85585cee5153441f846e0a", func := "loop.example/g00712/laws.FnExactWaits", spec := "fnExactWaits", apart := false }
def FnExactWaitsSaid : Prop := fnExactWaitsRow.holds Try.pinned (OpenSpec.ofChange fnExactWaitsSpec)

/-- ITS FALSE NEIGHBOUR: 'it returns false'. Refute it at one input. -/
def fnExactWaitsWrong : ChangeSpec := { name := "fnExactWaits", fn := fun _ => fun
  | [d1, d2] => { results := [.lit (.bool false)], args := [d1, d2] }
  | _ => none }
def FnExactWaitsWrongFalsely : Prop := fnExactWaitsRow.holds Try.pinned (OpenSpec.ofChange fnExactWaitsWrong)

/- THE SECOND FORM. 'bulk': how many values and letters a reading holds, each counted each time it is reached (what is shared counts as often as it is met; a slice's spare places count too). A statement '..UptoSaid' is the law's where the arguments, and the package variables that the reading takes, are together of bulk at most 1048576: NARROWER than '..Said'. Prove '..Said' where nothing that the law and all that it calls make is longer than what came in: it says more and counts as full. Else prove '..UptoSaid'. A law counts once. -/
mutual
def uptoBulk {H : Type} : DataW H → Nat
  | .lit (.string bytes) => bytes.length + 1
  | .lit _ => 1
  | .nil => 1
  | .ptr d => uptoBulk d + 1
  | .slice elems spare => uptoBulkAll elems + uptoBulkAll spare + 1
  | .agg parts => uptoBulkAll parts + 1
  | .iface _ d => uptoBulk d + 1
  | .map entries => uptoBulkEntries entries + 1
  | .held _ => 1
def uptoBulkAll {H : Type} : List (DataW H) → Nat
  | [] => 0
  | d :: r => uptoBulk d + uptoBulkAll r
def uptoBulkEntries {H : Type} : List (Lit × DataW H) → Nat
  | [] => 0
  | x :: r => uptoBulkEntry x + uptoBulkEntries r
def uptoBulkEntry {H : Type} : Lit × DataW H → Nat
  | (.string bytes, d) => bytes.length + uptoBulk d + 1
  | (_, d) => uptoBulk d + 1
 end
def uptoSmall : (H : Type) → List (DataW H) → Bool := fun _ ds => decide (uptoBulkAll ds ≤ 1048576)
def OpenSpec.upto (s : _root_.Go.ChangeSpec) : _root_.Go.OpenSpec := { _root_.Go.OpenSpec.ofChange s with cond := some uptoSmall }

/-- 'laws.FnBuffers', WHERE WHAT IT READS IS OF BULK AT MOST 1048576: true; the input reads as it did. -/
def fnBuffersUptoRow : OpenClaim := { program := "ytmickgldnfkiiaa", sum := "63db579a3a3bb20c5402ebfc8d7161ddbc2db896dd85585cee5153441f846e0a", func := "loop.example/g00712/laws.FnBuffers", spec := "fnBuffers", unfollowed := true, recurses := true, apart := false, narrowed := true }
def FnBuffersUptoSaid : Prop := fnBuffersUptoRow.holds Try.pinned (OpenSpec.upto fnBuffersSpec)

/-- 'laws.FnExactBufOk', WHERE WHAT IT READS IS OF BULK AT MOST 1048576: true; the input reads as it did. -/
def fnExactBufOkUptoRow : OpenClaim := { program := "ytmickgldnfkiiaa", sum := "63db579a3a3bb20c5402ebfc8d7161ddbc2db896dd85585cee5153441f846e0a", func := "loop.example/g00712/laws.FnExactBufOk", spec := "fnExactBufOk", apart := false, narrowed := true }
def FnExactBufOkUptoSaid : Prop := fnExactBufOkUptoRow.holds Try.pinned (OpenSpec.upto fnExactBufOkSpec)

/-- 'laws.FnExactPutSlot', WHERE WHAT IT READS IS OF BULK AT MOST 1048576: true; the input reads as it did. -/
def fnExactPutSlotUptoRow : OpenClaim := { program := "ytmickgldnfkiiaa", sum := "63db579a3a3bb20c5402ebfc8d7161ddbc2db896dd85585cee5153441f846e0a", func := "loop.example/g00712/laws.FnExactPutSlot", spec := "fnExactPutSlot", apart := false, narrowed := true }
def FnExactPutSlotUptoSaid : Prop := fnExactPutSlotUptoRow.holds Try.pinned (OpenSpec.upto fnExactPutSlotSpec)

/-- 'laws.FnExactDrainOne', WHERE WHAT IT READS IS OF BULK AT MOST 1048576: true; the input reads as it did. -/
def fnExactDrainOneUptoRow : OpenClaim := { program := "ytmickgldnfkiiaa", sum := "63db579a3a3bb20c5402ebfc8d7161ddbc2db896dd85585cee5153441f846e0a", func := "loop.example/g00712/laws.FnExactDrainOne", spec := "fnExactDrainOne", apart := false, narrowed := true }
def FnExactDrainOneUptoSaid : Prop := fnExactDrainOneUptoRow.holds Try.pinned (OpenSpec.upto fnExactDrainOneSpec)

/-- 'laws.FnExactDrainAll', WHERE WHAT IT READS IS OF BULK AT MOST 1048576: true; the input reads as it did. -/
def fnExactDrainAllUptoRow : OpenClaim := { program := "ytmickgldnfkiiaa", sum := "63db579a3a3bb20c5402ebfc8d7161ddbc2db896dd85585cee5153441f846e0a", func := "loop.example/g00712/laws.FnExactDrainAll", spec := "fnExactDrainAll", apart := false, narrowed := true }
def FnExactDrainAllUptoSaid : Prop := fnExactDrainAllUptoRow.holds Try.pinned (OpenSpec.upto fnExactDrainAllSpec)

/-- 'laws.FnExactReadThrough', WHERE WHAT IT READS IS OF BULK AT MOST 1048576: true; the input reads as it did. -/
def fnExactReadThroughUptoRow : OpenClaim := { program := "ytmickgldnfkiiaa", sum := "63db579a3a3bb20c5402ebfc8d7161ddbc2db896dd85585cee5153441f846e0a", func := "loop.example/g00712/laws.FnExactReadThrough", spec := "fnExactReadThrough", unfollowed := true, recurses := true, apart := false, narrowed := true }
def FnExactReadThroughUptoSaid : Prop := fnExactReadThroughUptoRow.holds Try.pinned (OpenSpec.upto fnExactReadThroughSpec)

/-- 'laws.FnExactWaits', WHERE WHAT IT READS IS OF BULK AT MOST 1048576: true; the input reads as it did. -/
def fnExactWaitsUptoRow : OpenClaim := { program := "ytmickgldnfkiiaa", sum := "63db579a3a3bb20c5402ebfc8d7161ddbc2db896dd85585cee5153441f846e0a", func := "loop.example/g00712/laws.FnExactWaits", spec := "fnExactWaits", apart := false, narrowed := true }
def FnExactWaitsUptoSaid : Prop := fnExactWaitsUptoRow.holds Try.pinned (OpenSpec.upto fnExactWaitsSpec)

end Rows
end Go.Proofs.Ytmickgldnfkiiaa
