/-
  No cell of these rows narrows 'for every input' (looked for: loops, veiled, ifaces, maps, wideKeys, modest, calm, conditions, laid).
  DERIVED. THE GIVEN ROWS OF THIS SEAT. 12 by the template 'for every input the law returns true; each argument reads behind the call as it read before'; 0 by the template 'total and deterministic' (their statements: YtiflooopfpcelabTotals.lean).
  GIVEN WITH THE SEED: the statements are not yours to turn. If you find one false, say at which input.
  Laid BY PROGRAM, IN A SANDBOX (cutbox-rows.mjs): the forced cells as the released guide's own fill.sh prints them over the translation 2e8990568d619959… (all of the seat's roots in one cut). By AI agents, Wed Nov 11 2026. No macro, syntax, notation, axiom, sorry.
-/
import Derived.Test.YtiflooopfpcelabChecked
import GoSem.Claim
import GoSem.ClaimJoined
import GoSem.ClaimMapViews
import Derived.JoinedTies
import Derived.KernelRfl
namespace Go.Proofs.Ytiflooopfpcelab
/- THE CELL 'sum', in the pinned program and in every row, IS THE sha256 OF THE DUMP (.gsa) THAT YtiflooopfpcelabProg.lean LOADS. Nothing in Lean hashes anything: it is a label: what it is worth is what the hold of that sum in a sandbox is worth. -/
noncomputable def Try.pinned : Pinned := { name := "ytiflooopfpcelab", sum := "2e8990568d619959179abc97d360101540f30002cd8e577129064d6c0d0a3086", checked := Try.checked }
namespace Rows
def none {H : Type} : Left H := { results := [], args := [] }

/-- 'laws.FnPoked': WHATEVER THE INPUT: true; the input reads as it did. -/
def fnPokedSpec : ChangeSpec := { name := "fnPoked", fn := fun _ => fun
  | [d] => { results := [.lit (.bool true)], args := [d] }
  | _ => none }
def fnPokedRow : OpenClaim := { program := "ytiflooopfpcelab", sum := "2e8990568d619959179abc97d360101540f30002cd8e577129064d6c0d0a3086", func := "loop.example/g00712/laws.FnPoked", spec := "fnPoked", apart := false }
def FnPokedSaid : Prop := fnPokedRow.holds Try.pinned (OpenSpec.ofChange fnPokedSpec)

/-- ITS FALSE NEIGHBOUR: 'it returns false'. Refute it at one input. -/
def fnPokedWrong : ChangeSpec := { name := "fnPoked", fn := fun _ => fun
  | [d] => { results := [.lit (.bool false)], args := [d] }
  | _ => none }
def FnPokedWrongFalsely : Prop := fnPokedRow.holds Try.pinned (OpenSpec.ofChange fnPokedWrong)

/-- 'laws.FnExactPeek': WHATEVER THE INPUT: true; the input reads as it did. -/
def fnExactPeekSpec : ChangeSpec := { name := "fnExactPeek", fn := fun _ => fun
  | [d1, d2] => { results := [.lit (.bool true)], args := [d1, d2] }
  | _ => none }
def fnExactPeekRow : OpenClaim := { program := "ytiflooopfpcelab", sum := "2e8990568d619959179abc97d360101540f30002cd8e577129064d6c0d0a3086", func := "loop.example/g00712/laws.FnExactPeek", spec := "fnExactPeek", apart := false }
def FnExactPeekSaid : Prop := fnExactPeekRow.holds Try.pinned (OpenSpec.ofChange fnExactPeekSpec)

/-- ITS FALSE NEIGHBOUR: 'it returns false'. Refute it at one input. -/
def fnExactPeekWrong : ChangeSpec := { name := "fnExactPeek", fn := fun _ => fun
  | [d1, d2] => { results := [.lit (.bool false)], args := [d1, d2] }
  | _ => none }
def FnExactPeekWrongFalsely : Prop := fnExactPeekRow.holds Try.pinned (OpenSpec.ofChange fnExactPeekWrong)

/-- 'laws.FnExactPoke': WHATEVER THE INPUT: true; the input reads as it did. -/
def fnExactPokeSpec : ChangeSpec := { name := "fnExactPoke", fn := fun _ => fun
  | [d1, d2, d3] => { results := [.lit (.bool true)], args := [d1, d2, d3] }
  | _ => none }
def fnExactPokeRow : OpenClaim := { program := "ytiflooopfpcelab", sum := "2e8990568d619959179abc97d360101540f30002cd8e577129064d6c0d0a3086", func := "loop.example/g00712/laws.FnExactPoke", spec := "fnExactPoke", apart := false }
def FnExactPokeSaid : Prop := fnExactPokeRow.holds Try.pinned (OpenSpec.ofChange fnExactPokeSpec)

/-- ITS FALSE NEIGHBOUR: 'it returns false'. Refute it at one input. -/
def fnExactPokeWrong : ChangeSpec := { name := "fnExactPoke", fn := fun _ => fun
  | [d1, d2, d3] => { results := [.lit (.bool false)], args := [d1, d2, d3] }
  | _ => none }
def FnExactPokeWrongFalsely : Prop := fnExactPokeRow.holds Try.pinned (OpenSpec.ofChange fnExactPokeWrong)

/-- 'laws.FnExactInstrOk': WHATEVER THE INPUT: true; the input reads as it did. -/
def fnExactInstrOkSpec : ChangeSpec := { name := "fnExactInstrOk", fn := fun _ => fun
  | [d1, d2, d3] => { results := [.lit (.bool true)], args := [d1, d2, d3] }
  | _ => none }
def fnExactInstrOkRow : OpenClaim := { program := "ytiflooopfpcelab", sum := "2e8990568d619959179abc97d360101540f30002cd8e577129064d6c0d0a3086", func := "loop.example/g00712/laws.FnExactInstrOk", spec := "fnExactInstrOk", apart := false }
def FnExactInstrOkSaid : Prop := fnExactInstrOkRow.holds Try.pinned (OpenSpec.ofChange fnExactInstrOkSpec)

/-- ITS FALSE NEIGHBOUR: 'it returns false'. Refute it at one input. -/
def fnExactInstrOkWrong : ChangeSpec := { name := "fnExactInstrOk", fn := fun _ => fun
  | [d1, d2, d3] => { results := [.lit (.bool false)], args := [d1, d2, d3] }
  | _ => none }
def FnExactInstrOkWrongFalsely : Prop := fnExactInstrOkRow.holds Try.pinned (OpenSpec.ofChange fnExactInstrOkWrong)

/-- 'laws.FnExactProgOk': WHATEVER THE INPUT: true; the input reads as it did. -/
def fnExactProgOkSpec : ChangeSpec := { name := "fnExactProgOk", fn := fun _ => fun
  | [d] => { results := [.lit (.bool true)], args := [d] }
  | _ => none }
def fnExactProgOkRow : OpenClaim := { program := "ytiflooopfpcelab", sum := "2e8990568d619959179abc97d360101540f30002cd8e577129064d6c0d0a3086", func := "loop.example/g00712/laws.FnExactProgOk", spec := "fnExactProgOk", apart := false }
def FnExactProgOkSaid : Prop := fnExactProgOkRow.holds Try.pinned (OpenSpec.ofChange fnExactProgOkSpec)

/-- ITS FALSE NEIGHBOUR: 'it returns false'. Refute it at one input. -/
def fnExactProgOkWrong : ChangeSpec := { name := "fnExactProgOk", fn := fun _ => fun
  | [d] => { results := [.lit (.bool false)], args := [d] }
  | _ => none }
def FnExactProgOkWrongFalsely : Prop := fnExactProgOkRow.holds Try.pinned (OpenSpec.ofChange fnExactProgOkWrong)

/-- 'laws.FnBuffers': WHATEVER THE INPUT: true; the input reads as it did. -/
def fnBuffersSpec : ChangeSpec := { name := "fnBuffers", fn := fun _ => fun
  | [d] => { results := [.lit (.bool true)], args := [d] }
  | _ => none }
def fnBuffersRow : OpenClaim := { program := "ytiflooopfpcelab", sum := "2e8990568d619959179abc97d360101540f30002cd8e577129064d6c0d0a3086", func := "loop.example/g00712/laws.FnBuffers", spec := "fnBuffers", unfollowed := true, recurses := true, apart := false }
def FnBuffersSaid : Prop := fnBuffersRow.holds Try.pinned (OpenSpec.ofChange fnBuffersSpec)

/-- ITS FALSE NEIGHBOUR: 'it returns false'. Refute it at one input. -/
def fnBuffersWrong : ChangeSpec := { name := "fnBuffers", fn := fun _ => fun
  | [d] => { results := [.lit (.bool false)], args := [d] }
  | _ => none }
def FnBuffersWrongFalsely : Prop := fnBuffersRow.holds Try.pinned (OpenSpec.ofChange fnBuffersWrong)

/-- 'laws.FnExactBufOk': WHATEVER THE INPUT: true; the input reads as it did. -/
def fnExactBufOkSpec : ChangeSpec := { name := "fnExactBufOk", fn := fun _ => fun
  | [d] => { results := [.lit (.bool true)], args := [d] }
  | _ => none }
def fnExactBufOkRow : OpenClaim := { program := "ytiflooopfpcelab", sum := "2e8990568d619959179abc97d360101540f30002cd8e577129064d6c0d0a3086", func := "loop.example/g00712/laws.FnExactBufOk", spec := "fnExactBufOk", apart := false }
def FnExactBufOkSaid : Prop := fnExactBufOkRow.holds Try.pinned (OpenSpec.ofChange fnExactBufOkSpec)

/-- ITS FALSE NEIGHBOUR: 'it returns false'. Refute it at one input. -/
def fnExactBufOkWrong : ChangeSpec := { name := "fnExactBufOk", fn := fun _ => fun
  | [d] => { results := [.lit (.bool false)], args := [d] }
  | _ => none }
def FnExactBufOkWrongFalsely : Prop := fnExactBufOkRow.holds Try.pinned (OpenSpec.ofChange fnExactBufOkWrong)

/-- 'laws.FnExactPutSlot': WHATEVER THE INPUT: true; the input reads as it did. -/
def fnExactPutSlotSpec : ChangeSpec := { name := "fnExactPutSlot", fn := fun _ => fun
  | [d1, d2, d3] => { results := [.lit (.bool true)], args := [d1, d2, d3] }
  | _ => none }
def fnExactPutSlotRow : OpenClaim := { program := "ytiflooopfpcelab", sum := "2e8990568d619959179abc97d360101540f30002cd8e577129064d6c0d0a3086", func := "loop.example/g00712/laws.FnExactPutSlot", spec := "fnExactPutSlot", apart := false }
def FnExactPutSlotSaid : Prop := fnExactPutSlotRow.holds Try.pinned (OpenSpec.ofChange fnExactPutSlotSpec)

/-- ITS FALSE NEIGHBOUR: 'it returns false'. Refute it at one input. -/
def fnExactPutSlotWrong : ChangeSpec := { name := "fnExactPutSlot", fn := fun _ => fun
  | [d1, d2, d3] => { results := [.lit (.bool false)], args := [d1, d2, d3] }
  | _ => none }
def FnExactPutSlotWrongFalsely : Prop := fnExactPutSlotRow.holds Try.pinned (OpenSpec.ofChange fnExactPutSlotWrong)

/-- 'laws.FnExactDrainOne': WHATEVER THE INPUT: true; the input reads as it did. -/
def fnExactDrainOneSpec : ChangeSpec := { name := "fnExactDrainOne", fn := fun _ => fun
  | [d1, d2] => { results := [.lit (.bool true)], args := [d1, d2] }
  | _ => none }
def fnExactDrainOneRow : OpenClaim := { program := "ytiflooopfpcelab", sum := "2e8990568d619959179abc97d360101540f30002cd8e577129064d6c0d0a3086", func := "loop.example/g00712/laws.FnExactDrainOne", spec := "fnExactDrainOne", apart := false }
def FnExactDrainOneSaid : Prop := fnExactDrainOneRow.holds Try.pinned (OpenSpec.ofChange fnExactDrainOneSpec)

/-- ITS FALSE NEIGHBOUR: 'it returns false'. Refute it at one input. -/
def fnExactDrainOneWrong : ChangeSpec := { name := "fnExactDrainOne", fn := fun _ => fun
  | [d1, d2] => { results := [.lit (.bool false)], args := [d1, d2] }
  | _ => none }
def FnExactDrainOneWrongFalsely : Prop := fnExactDrainOneRow.holds Try.pinned (OpenSpec.ofChange fnExactDrainOneWrong)

/-- 'laws.FnExactDrainAll': WHATEVER THE INPUT: true; the input reads as it did. -/
def fnExactDrainAllSpec : ChangeSpec := { name := "fnExactDrainAll", fn := fun _ => fun
  | [d1, d2] => { results := [.lit (.bool true)], args := [d1, d2] }
  | _ => none }
def fnExactDrainAllRow : OpenClaim := { program := "ytiflooopfpcelab", sum := "2e8990568d619959179abc97d360101540f30002cd8e577129064d6c0d0a3086", func := "loop.example/g00712/laws.FnExactDrainAll", spec := "fnExactDrainAll", apart := false }
def FnExactDrainAllSaid : Prop := fnExactDrainAllRow.holds Try.pinned (OpenSpec.ofChange fnExactDrainAllSpec)

/-- ITS FALSE NEIGHBOUR: 'it returns false'. Refute it at one input. -/
def fnExactDrainAllWrong : ChangeSpec := { name := "fnExactDrainAll", fn := fun _ => fun
  | [d1, d2] => { results := [.lit (.bool false)], args := [d1, d2] }
  | _ => none }
def FnExactDrainAllWrongFalsely : Prop := fnExactDrainAllRow.holds Try.pinned (OpenSpec.ofChange fnExactDrainAllWrong)

/-- 'laws.FnExactReadThrough': WHATEVER THE INPUT: true; the input reads as it did. -/
def fnExactReadThroughSpec : ChangeSpec := { name := "fnExactReadThrough", fn := fun _ => fun
  | [d1, d2, d3] => { results := [.lit (.bool true)], args := [d1, d2, d3] }
  | _ => none }
def fnExactReadThroughRow : OpenClaim := { program := "ytiflooopfpcelab", sum := "2e8990568d619959179abc97d360101540f30002cd8e577129064d6c0d0a3086", func := "loop.example/g00712/laws.FnExactReadThrough", spec := "fnExactReadThrough", unfollowed := true, recurses := true, apart := false }
def FnExactReadThroughSaid : Prop := fnExactReadThroughRow.holds Try.pinned (OpenSpec.ofChange fnExactReadThroughSpec)

/-- ITS FALSE NEIGHBOUR: 'it returns false'. Refute it at one input. -/
def fnExactReadThroughWrong : ChangeSpec := { name := "fnExactReadThrough", fn := fun _ => fun
  | [d1, d2, d3] => { results := [.lit (.bool false)], args := [d1, d2, d3] }
  | _ => none }
def FnExactReadThroughWrongFalsely : Prop := fnExactReadThroughRow.holds Try.pinned (OpenSpec.ofChange fnExactReadThroughWrong)

/-- 'laws.FnExactWaits': WHATEVER THE INPUT: true; the input reads as it did. -/
def fnExactWaitsSpec : ChangeSpec := { name := "fnExactWaits", fn := fun _ => fun
  | [d1, d2] => { results := [.lit (.bool true)], args := [d1, d2] }
  | _ => none }
def fnExactWaitsRow : OpenClaim := { program := "ytiflooopfpcelab", sum := "2e8990568d619959179abc97d360101540f30002cd8e577129064d6c0d0a3086", func := "loop.example/g00712/laws.FnExactWaits", spec := "fnExactWaits", apart := false }
def FnExactWaitsSaid : Prop := fnExactWaitsRow.holds Try.pinned (OpenSpec.ofChange fnExactWaitsSpec)

/-- ITS FALSE NEIGHBOUR: 'it returns false'. Refute it at one input. -/
def fnExactWaitsWrong : ChangeSpec := { name := "fnExactWaits", fn := fun _ => fun
  | [d1, d2] => { results := [.lit (.bool false)], args := [d1, d2] }
  | _ => none }
def FnExactWaitsWrongFalsely : Prop := fnExactWaitsRow.holds Try.pinned (OpenSpec.ofChange fnExactWaitsWrong)

/- THE SECOND FORM. 'bulk': how many values and letters a reading holds, each counted each time it is reached (what is shared counts as often as it is met; a slice's spare places count too). A statement '..UptoSaid' is the law's where the arguments, and the package variables that the reading takes, are together of bulk at most 1048576: NARROWER than '..Said'. Prove '..Said' where nothing that the law and all that it calls make is longer than what came in: it says more and counts as full. Else prove '..UptoSaid'. A law counts once. -/
mutual
def uptoBulk {H : Type} : DataW H → Nat
  | .lit (.string bytes) => bytes.length + 1
  | .lit _ => 1
  | .nil => 1
  | .ptr d => uptoBulk d + 1
  | .slice elems spare => uptoBulkAll elems + uptoBulkAll spare + 1
  | .agg parts => uptoBulkAll parts + 1
  | .iface _ d => uptoBulk d + 1
  | .map entries => uptoBulkEntries entries + 1
  | .held _ => 1
def uptoBulkAll {H : Type} : List (DataW H) → Nat
  | [] => 0
  | d :: r => uptoBulk d + uptoBulkAll r
def uptoBulkEntries {H : Type} : List (Lit × DataW H) → Nat
  | [] => 0
  | x :: r => uptoBulkEntry x + uptoBulkEntries r
def uptoBulkEntry {H : Type} : Lit × DataW H → Nat
  | (.string bytes, d) => bytes.length + uptoBulk d + 1
  | (_, d) => uptoBulk d + 1
 end
def uptoSmall : (H : Type) → List (DataW H) → Bool := fun _ ds => decide (uptoBulkAll ds ≤ 1048576)
def OpenSpec.upto (s : _root_.Go.ChangeSpec) : _root_.Go.OpenSpec := { _root_.Go.OpenSpec.ofChange s with cond := some uptoSmall }

/-- 'laws.FnPoked', WHERE WHAT IT READS IS OF BULK AT MOST 1048576: true; the input reads as it did. -/
def fnPokedUptoRow : OpenClaim := { program := "ytiflooopfpcelab", sum := "2e8990568d619959179abc97d360101540f30002cd8e577129064d6c0d0a3086", func := "loop.example/g00712/laws.FnPoked", spec := "fnPoked", apart := false, narrowed := true }
def FnPokedUptoSaid : Prop := fnPokedUptoRow.holds Try.pinned (OpenSpec.upto fnPokedSpec)

/-- 'laws.FnExactPeek', WHERE WHAT IT READS IS OF BULK AT MOST 1048576: true; the input reads as it did. -/
def fnExactPeekUptoRow : OpenClaim := { program := "ytiflooopfpcelab", sum := "2e8990568d619959179abc97d360101540f30002cd8e577129064d6c0d0a3086", func := "loop.example/g00712/laws.FnExactPeek", spec := "fnExactPeek", apart := false, narrowed := true }
def FnExactPeekUptoSaid : Prop := fnExactPeekUptoRow.holds Try.pinned (OpenSpec.upto fnExactPeekSpec)

/-- 'laws.FnExactPoke', WHERE WHAT IT READS IS OF BULK AT MOST 1048576: true; the input reads as it did. -/
def fnExactPokeUptoRow : OpenClaim := { program := "ytiflooopfpcelab", sum := "2e8990568d619959179abc97d360101540f30002cd8e577129064d6c0d0a3086", func := "loop.example/g00712/laws.FnExactPoke", spec := "fnExactPoke", apart := false, narrowed := true }
def FnExactPokeUptoSaid : Prop := fnExactPokeUptoRow.holds Try.pinned (OpenSpec.upto fnExactPokeSpec)

/-- 'laws.FnExactInstrOk', WHERE WHAT IT READS IS OF BULK AT MOST 1048576: true; the input reads as it did. -/
def fnExactInstrOkUptoRow : OpenClaim := { program := "ytiflooopfpcelab", sum := "2e8990568d619959179abc97d360101540f30002cd8e577129064d6c0d0a3086", func := "loop.example/g00712/laws.FnExactInstrOk", spec := "fnExactInstrOk", apart := false, narrowed := true }
def FnExactInstrOkUptoSaid : Prop := fnExactInstrOkUptoRow.holds Try.pinned (OpenSpec.upto fnExactInstrOkSpec)

/-- 'laws.FnExactProgOk', WHERE WHAT IT READS IS OF BULK AT MOST 1048576: true; the input reads as it did. -/
def fnExactProgOkUptoRow : OpenClaim := { program := "ytiflooopfpcelab", sum := "2e8990568d619959179abc97d360101540f30002cd8e577129064d6c0d0a3086", func := "loop.example/g00712/laws.FnExactProgOk", spec := "fnExactProgOk", apart := false, narrowed := true }
def FnExactProgOkUptoSaid : Prop := fnExactProgOkUptoRow.holds Try.pinned (OpenSpec.upto fnExactProgOkSpec)

/-- 'laws.FnBuffers', WHERE WHAT IT READS IS OF BULK AT MOST 1048576: true; the input reads as it did. -/
def fnBuffersUptoRow : OpenClaim := { program := "ytiflooopfpcelab", sum := "2e8990568d619959179abc97d360101540f30002cd8e577129064d6c0d0a3086", func := "loop.example/g00712/laws.FnBuffers", spec := "fnBuffers", unfollowed := true, recurses := true, apart := false, narrowed := true }
def FnBuffersUptoSaid : Prop := fnBuffersUptoRow.holds Try.pinned (OpenSpec.upto fnBuffersSpec)

/-- 'laws.FnExactBufOk', WHERE WHAT IT READS IS OF BULK AT MOST 1048576: true; the input reads as it did. -/
def fnExactBufOkUptoRow : OpenClaim := { program := "ytiflooopfpcelab", sum := "2e8990568d619959179abc97d360101540f30002cd8e577129064d6c0d0a3086", func := "loop.example/g00712/laws.FnExactBufOk", spec := "fnExactBufOk", apart := false, narrowed := true }
def FnExactBufOkUptoSaid : Prop := fnExactBufOkUptoRow.holds Try.pinned (OpenSpec.upto fnExactBufOkSpec)

/-- 'laws.FnExactPutSlot', WHERE WHAT IT READS IS OF BULK AT MOST 1048576: true; the input reads as it did. -/
def fnExactPutSlotUptoRow : OpenClaim := { program := "ytiflooopfpcelab", sum := "2e8990568d619959179abc97d360101540f30002cd8e577129064d6c0d0a3086", func := "loop.example/g00712/laws.FnExactPutSlot", spec := "fnExactPutSlot", apart := false, narrowed := true }
def FnExactPutSlotUptoSaid : Prop := fnExactPutSlotUptoRow.holds Try.pinned (OpenSpec.upto fnExactPutSlotSpec)

/-- 'laws.FnExactDrainOne', WHERE WHAT IT READS IS OF BULK AT MOST 1048576: true; the input reads as it did. -/
def fnExactDrainOneUptoRow : OpenClaim := { program := "ytiflooopfpcelab", sum := "2e8990568d619959179abc97d360101540f30002cd8e577129064d6c0d0a3086", func := "loop.example/g00712/laws.FnExactDrainOne", spec := "fnExactDrainOne", apart := false, narrowed := true }
def FnExactDrainOneUptoSaid : Prop := fnExactDrainOneUptoRow.holds Try.pinned (OpenSpec.upto fnExactDrainOneSpec)

/-- 'laws.FnExactDrainAll', WHERE WHAT IT READS IS OF BULK AT MOST 1048576: true; the input reads as it did. -/
def fnExactDrainAllUptoRow : OpenClaim := { program := "ytiflooopfpcelab", sum := "2e8990568d619959179abc97d360101540f30002cd8e577129064d6c0d0a3086", func := "loop.example/g00712/laws.FnExactDrainAll", spec := "fnExactDrainAll", apart := false, narrowed := true }
def FnExactDrainAllUptoSaid : Prop := fnExactDrainAllUptoRow.holds Try.pinned (OpenSpec.upto fnExactDrainAllSpec)

/-- 'laws.FnExactReadThrough', WHERE WHAT IT READS IS OF BULK AT MOST 1048576: true; the input reads as it did. -/
def fnExactReadThroughUptoRow : OpenClaim := { program := "ytiflooopfpcelab", sum := "2e8990568d619959179abc97d360101540f30002cd8e577129064d6c0d0a3086", func := "loop.example/g00712/laws.FnExactReadThrough", spec := "fnExactReadThrough", unfollowed := true, recurses := true, apart := false, narrowed := true }
def FnExactReadThroughUptoSaid : Prop := fnExactReadThroughUptoRow.holds Try.pinned (OpenSpec.upto fnExactReadThroughSpec)

/-- 'laws.FnExactWaits', WHERE WHAT IT READS IS OF BULK AT MOST 1048576: true; the input reads as it did. -/
def fnExactWaitsUptoRow : OpenClaim := { program := "ytiflooopfpcelab", sum := "2e8990568d619959179abc97d360101540f30002cd8e577129064d6c0d0a3086", func := "loop.example/g00712/laws.FnExactWaits", spec := "fnExactWaits", apart := false, narrowed := true }
def FnExactWaitsUptoSaid : Prop := fnExactWaitsUptoRow.holds Try.pinned (OpenSpec.upto fnExactWaitsSpec)

end Rows
end Go.Proofs.Ytiflooopfpcelab
