/-
  No cell of these rows narrows 'for every input' (looked for: loops, veiled, ifaces, maps, wideKeys, modest, calm, conditions, laid).
  DERIVED. THE GIVEN ROWS OF THIS SEAT. 8 by the template 'for every input the law returns true; each argument reads behind the call as it read before'; 0 by the template 'total and deterministic' (their statements: YthlkppeciapkmaaTotals.lean).
  GIVEN WITH THE SEED: the statements are not yours to turn. If you find one false, say at which input.
  Laid BY PROGRAM, IN A SANDBOX (cutbox-rows.mjs): the forced cells as the released guide's own fill.sh prints them over the translation 759b0ca910ed5f61… (all of the seat's roots in one cut). By AI agents, Wed Nov 11 2026. No macro, syntax, notation, axiom, sorry.
-/
import Derived.Test.YthlkppeciapkmaaChecked
import GoSem.Claim
import GoSem.ClaimJoined
import GoSem.ClaimMapViews
import Derived.JoinedTies
import Derived.KernelRfl
namespace Go.Proofs.Ythlkppeciapkmaa
/- THE CELL 'sum', in the pinned program and in every row, IS THE sha256 OF THE DUMP (.gsa) THAT YthlkppeciapkmaaProg.lean LOADS. Nothing in Lean hashes anything: it is a label: what it is worth is what the hold of that sum in a sandbox is worth. -/
noncomputable def Try.pinned : Pinned := { name := "ythlkppeciapkmaa", sum := "759b0ca910ed5f611eaa1e5abfdc833415507cadc0f6e1ea82bd4a22e0c6031e", checked := Try.checked }
namespace Rows
def none {H : Type} : Left H := { results := [], args := [] }

/-- 'laws.FnPoked': WHATEVER THE INPUT: true; the input reads as it did. -/
def fnPokedSpec : ChangeSpec := { name := "fnPoked", fn := fun _ => fun
  | [d] => { results := [.lit (.bool true)], args := [d] }
  | _ => none }
def fnPokedRow : OpenClaim := { program := "ythlkppeciapkmaa", sum := "759b0ca910ed5f611eaa1e5abfdc833415507cadc0f6e1ea82bd4a22e0c6031e", func := "loop.example/g00712/laws.FnPoked", spec := "fnPoked", apart := false }
def FnPokedSaid : Prop := fnPokedRow.holds Try.pinned (OpenSpec.ofChange fnPokedSpec)

/-- ITS FALSE NEIGHBOUR: 'it returns false'. Refute it at one input. -/
def fnPokedWrong : ChangeSpec := { name := "fnPoked", fn := fun _ => fun
  | [d] => { results := [.lit (.bool false)], args := [d] }
  | _ => none }
def FnPokedWrongFalsely : Prop := fnPokedRow.holds Try.pinned (OpenSpec.ofChange fnPokedWrong)

/-- 'laws.FnExactMemOk': WHATEVER THE INPUT: true; the input reads as it did. -/
def fnExactMemOkSpec : ChangeSpec := { name := "fnExactMemOk", fn := fun _ => fun
  | [d] => { results := [.lit (.bool true)], args := [d] }
  | _ => none }
def fnExactMemOkRow : OpenClaim := { program := "ythlkppeciapkmaa", sum := "759b0ca910ed5f611eaa1e5abfdc833415507cadc0f6e1ea82bd4a22e0c6031e", func := "loop.example/g00712/laws.FnExactMemOk", spec := "fnExactMemOk", apart := false }
def FnExactMemOkSaid : Prop := fnExactMemOkRow.holds Try.pinned (OpenSpec.ofChange fnExactMemOkSpec)

/-- ITS FALSE NEIGHBOUR: 'it returns false'. Refute it at one input. -/
def fnExactMemOkWrong : ChangeSpec := { name := "fnExactMemOk", fn := fun _ => fun
  | [d] => { results := [.lit (.bool false)], args := [d] }
  | _ => none }
def FnExactMemOkWrongFalsely : Prop := fnExactMemOkRow.holds Try.pinned (OpenSpec.ofChange fnExactMemOkWrong)

/-- 'laws.FnExactNewMem': WHATEVER THE INPUT: true; the input reads as it did. -/
def fnExactNewMemSpec : ChangeSpec := { name := "fnExactNewMem", fn := fun _ => fun
  | [d] => { results := [.lit (.bool true)], args := [d] }
  | _ => none }
def fnExactNewMemRow : OpenClaim := { program := "ythlkppeciapkmaa", sum := "759b0ca910ed5f611eaa1e5abfdc833415507cadc0f6e1ea82bd4a22e0c6031e", func := "loop.example/g00712/laws.FnExactNewMem", spec := "fnExactNewMem", apart := false }
def FnExactNewMemSaid : Prop := fnExactNewMemRow.holds Try.pinned (OpenSpec.ofChange fnExactNewMemSpec)

/-- ITS FALSE NEIGHBOUR: 'it returns false'. Refute it at one input. -/
def fnExactNewMemWrong : ChangeSpec := { name := "fnExactNewMem", fn := fun _ => fun
  | [d] => { results := [.lit (.bool false)], args := [d] }
  | _ => none }
def FnExactNewMemWrongFalsely : Prop := fnExactNewMemRow.holds Try.pinned (OpenSpec.ofChange fnExactNewMemWrong)

/-- 'laws.FnExactPeek': WHATEVER THE INPUT: true; the input reads as it did. -/
def fnExactPeekSpec : ChangeSpec := { name := "fnExactPeek", fn := fun _ => fun
  | [d1, d2] => { results := [.lit (.bool true)], args := [d1, d2] }
  | _ => none }
def fnExactPeekRow : OpenClaim := { program := "ythlkppeciapkmaa", sum := "759b0ca910ed5f611eaa1e5abfdc833415507cadc0f6e1ea82bd4a22e0c6031e", func := "loop.example/g00712/laws.FnExactPeek", spec := "fnExactPeek", apart := false }
def FnExactPeekSaid : Prop := fnExactPeekRow.holds Try.pinned (OpenSpec.ofChange fnExactPeekSpec)

/-- ITS FALSE NEIGHBOUR: 'it returns false'. Refute it at one input. -/
def fnExactPeekWrong : ChangeSpec := { name := "fnExactPeek", fn := fun _ => fun
  | [d1, d2] => { results := [.lit (.bool false)], args := [d1, d2] }
  | _ => none }
def FnExactPeekWrongFalsely : Prop := fnExactPeekRow.holds Try.pinned (OpenSpec.ofChange fnExactPeekWrong)

/-- 'laws.FnExactPoke': WHATEVER THE INPUT: true; the input reads as it did. -/
def fnExactPokeSpec : ChangeSpec := { name := "fnExactPoke", fn := fun _ => fun
  | [d1, d2, d3] => { results := [.lit (.bool true)], args := [d1, d2, d3] }
  | _ => none }
def fnExactPokeRow : OpenClaim := { program := "ythlkppeciapkmaa", sum := "759b0ca910ed5f611eaa1e5abfdc833415507cadc0f6e1ea82bd4a22e0c6031e", func := "loop.example/g00712/laws.FnExactPoke", spec := "fnExactPoke", apart := false }
def FnExactPokeSaid : Prop := fnExactPokeRow.holds Try.pinned (OpenSpec.ofChange fnExactPokeSpec)

/-- ITS FALSE NEIGHBOUR: 'it returns false'. Refute it at one input. -/
def fnExactPokeWrong : ChangeSpec := { name := "fnExactPoke", fn := fun _ => fun
  | [d1, d2, d3] => { results := [.lit (.bool false)], args := [d1, d2, d3] }
  | _ => none }
def FnExactPokeWrongFalsely : Prop := fnExactPokeRow.holds Try.pinned (OpenSpec.ofChange fnExactPokeWrong)

/-- 'laws.FnExactSameMem': WHATEVER THE INPUT: true; the input reads as it did. -/
def fnExactSameMemSpec : ChangeSpec := { name := "fnExactSameMem", fn := fun _ => fun
  | [d1, d2] => { results := [.lit (.bool true)], args := [d1, d2] }
  | _ => none }
def fnExactSameMemRow : OpenClaim := { program := "ythlkppeciapkmaa", sum := "759b0ca910ed5f611eaa1e5abfdc833415507cadc0f6e1ea82bd4a22e0c6031e", func := "loop.example/g00712/laws.FnExactSameMem", spec := "fnExactSameMem", apart := false }
def FnExactSameMemSaid : Prop := fnExactSameMemRow.holds Try.pinned (OpenSpec.ofChange fnExactSameMemSpec)

/-- ITS FALSE NEIGHBOUR: 'it returns false'. Refute it at one input. -/
def fnExactSameMemWrong : ChangeSpec := { name := "fnExactSameMem", fn := fun _ => fun
  | [d1, d2] => { results := [.lit (.bool false)], args := [d1, d2] }
  | _ => none }
def FnExactSameMemWrongFalsely : Prop := fnExactSameMemRow.holds Try.pinned (OpenSpec.ofChange fnExactSameMemWrong)

/-- 'laws.FnExactDiffMem': WHATEVER THE INPUT: true; the input reads as it did. -/
def fnExactDiffMemSpec : ChangeSpec := { name := "fnExactDiffMem", fn := fun _ => fun
  | [d1, d2] => { results := [.lit (.bool true)], args := [d1, d2] }
  | _ => none }
def fnExactDiffMemRow : OpenClaim := { program := "ythlkppeciapkmaa", sum := "759b0ca910ed5f611eaa1e5abfdc833415507cadc0f6e1ea82bd4a22e0c6031e", func := "loop.example/g00712/laws.FnExactDiffMem", spec := "fnExactDiffMem", apart := false }
def FnExactDiffMemSaid : Prop := fnExactDiffMemRow.holds Try.pinned (OpenSpec.ofChange fnExactDiffMemSpec)

/-- ITS FALSE NEIGHBOUR: 'it returns false'. Refute it at one input. -/
def fnExactDiffMemWrong : ChangeSpec := { name := "fnExactDiffMem", fn := fun _ => fun
  | [d1, d2] => { results := [.lit (.bool false)], args := [d1, d2] }
  | _ => none }
def FnExactDiffMemWrongFalsely : Prop := fnExactDiffMemRow.holds Try.pinned (OpenSpec.ofChange fnExactDiffMemWrong)

/-- 'laws.FnExactClamp': WHATEVER THE INPUT: true; the input reads as it did. -/
def fnExactClampSpec : ChangeSpec := { name := "fnExactClamp", fn := fun _ => fun
  | [d] => { results := [.lit (.bool true)], args := [d] }
  | _ => none }
def fnExactClampRow : OpenClaim := { program := "ythlkppeciapkmaa", sum := "759b0ca910ed5f611eaa1e5abfdc833415507cadc0f6e1ea82bd4a22e0c6031e", func := "loop.example/g00712/laws.FnExactClamp", spec := "fnExactClamp", apart := false }
def FnExactClampSaid : Prop := fnExactClampRow.holds Try.pinned (OpenSpec.ofChange fnExactClampSpec)

/-- ITS FALSE NEIGHBOUR: 'it returns false'. Refute it at one input. -/
def fnExactClampWrong : ChangeSpec := { name := "fnExactClamp", fn := fun _ => fun
  | [d] => { results := [.lit (.bool false)], args := [d] }
  | _ => none }
def FnExactClampWrongFalsely : Prop := fnExactClampRow.holds Try.pinned (OpenSpec.ofChange fnExactClampWrong)

/- THE SECOND FORM. 'bulk': how many values and letters a reading holds, each counted each time it is reached (what is shared counts as often as it is met; a slice's spare places count too). A statement '..UptoSaid' is the law's where the arguments, and the package variables that the reading takes, are together of bulk at most 1048576: NARROWER than '..Said'. Prove '..Said' where nothing that the law and all that it calls make is longer than what came in: it says more and counts as full. Else prove '..UptoSaid'. A law counts once. -/
mutual
def uptoBulk {H : Type} : DataW H → Nat
  | .lit (.string bytes) => bytes.length + 1
  | .lit _ => 1
  | .nil => 1
  | .ptr d => uptoBulk d + 1
  | .slice elems spare => uptoBulkAll elems + uptoBulkAll spare + 1
  | .agg parts => uptoBulkAll parts + 1
  | .iface _ d => uptoBulk d + 1
  | .map entries => uptoBulkEntries entries + 1
  | .held _ => 1
def uptoBulkAll {H : Type} : List (DataW H) → Nat
  | [] => 0
  | d :: r => uptoBulk d + uptoBulkAll r
def uptoBulkEntries {H : Type} : List (Lit × DataW H) → Nat
  | [] => 0
  | x :: r => uptoBulkEntry x + uptoBulkEntries r
def uptoBulkEntry {H : Type} : Lit × DataW H → Nat
  | (.string bytes, d) => bytes.length + uptoBulk d + 1
  | (_, d) => uptoBulk d + 1
 end
def uptoSmall : (H : Type) → List (DataW H) → Bool := fun _ ds => decide (uptoBulkAll ds ≤ 1048576)
def OpenSpec.upto (s : _root_.Go.ChangeSpec) : _root_.Go.OpenSpec := { _root_.Go.OpenSpec.ofChange s with cond := some uptoSmall }

/-- 'laws.FnPoked', WHERE WHAT IT READS IS OF BULK AT MOST 1048576: true; the input reads as it did. -/
def fnPokedUptoRow : OpenClaim := { program := "ythlkppeciapkmaa", sum := "759b0ca910ed5f611eaa1e5abfdc833415507cadc0f6e1ea82bd4a22e0c6031e", func := "loop.example/g00712/laws.FnPoked", spec := "fnPoked", apart := false, narrowed := true }
def FnPokedUptoSaid : Prop := fnPokedUptoRow.holds Try.pinned (OpenSpec.upto fnPokedSpec)

/-- 'laws.FnExactMemOk', WHERE WHAT IT READS IS OF BULK AT MOST 1048576: true; the input reads as it did. -/
def fnExactMemOkUptoRow : OpenClaim := { program := "ythlkppeciapkmaa", sum := "759b0ca910ed5f611eaa1e5abfdc833415507cadc0f6e1ea82bd4a22e0c6031e", func := "loop.example/g00712/laws.FnExactMemOk", spec := "fnExactMemOk", apart := false, narrowed := true }
def FnExactMemOkUptoSaid : Prop := fnExactMemOkUptoRow.holds Try.pinned (OpenSpec.upto fnExactMemOkSpec)

/-- 'laws.FnExactNewMem', WHERE WHAT IT READS IS OF BULK AT MOST 1048576: true; the input reads as it did. -/
def fnExactNewMemUptoRow : OpenClaim := { program := "ythlkppeciapkmaa", sum := "759b0ca910ed5f611eaa1e5abfdc833415507cadc0f6e1ea82bd4a22e0c6031e", func := "loop.example/g00712/laws.FnExactNewMem", spec := "fnExactNewMem", apart := false, narrowed := true }
def FnExactNewMemUptoSaid : Prop := fnExactNewMemUptoRow.holds Try.pinned (OpenSpec.upto fnExactNewMemSpec)

/-- 'laws.FnExactPeek', WHERE WHAT IT READS IS OF BULK AT MOST 1048576: true; the input reads as it did. -/
def fnExactPeekUptoRow : OpenClaim := { program := "ythlkppeciapkmaa", sum := "759b0ca910ed5f611eaa1e5abfdc833415507cadc0f6e1ea82bd4a22e0c6031e", func := "loop.example/g00712/laws.FnExactPeek", spec := "fnExactPeek", apart := false, narrowed := true }
def FnExactPeekUptoSaid : Prop := fnExactPeekUptoRow.holds Try.pinned (OpenSpec.upto fnExactPeekSpec)

/-- 'laws.FnExactPoke', WHERE WHAT IT READS IS OF BULK AT MOST 1048576: true; the input reads as it did. -/
def fnExactPokeUptoRow : OpenClaim := { program := "ythlkppeciapkmaa", sum := "759b0ca910ed5f611eaa1e5abfdc833415507cadc0f6e1ea82bd4a22e0c6031e", func := "loop.example/g00712/laws.FnExactPoke", spec := "fnExactPoke", apart := false, narrowed := true }
def FnExactPokeUptoSaid : Prop := fnExactPokeUptoRow.holds Try.pinned (OpenSpec.upto fnExactPokeSpec)

/-- 'laws.FnExactSameMem', WHERE WHAT IT READS IS OF BULK AT MOST 1048576: true; the input reads as it did. -/
def fnExactSameMemUptoRow : OpenClaim := { program := "ythlkppeciapkmaa", sum := "759b0ca910ed5f611eaa1e5abfdc833415507cadc0f6e1ea82bd4a22e0c6031e", func := "loop.example/g00712/laws.FnExactSameMem", spec := "fnExactSameMem", apart := false, narrowed := true }
def FnExactSameMemUptoSaid : Prop := fnExactSameMemUptoRow.holds Try.pinned (OpenSpec.upto fnExactSameMemSpec)

/-- 'laws.FnExactDiffMem', WHERE WHAT IT READS IS OF BULK AT MOST 1048576: true; the input reads as it did. -/
def fnExactDiffMemUptoRow : OpenClaim := { program := "ythlkppeciapkmaa", sum := "759b0ca910ed5f611eaa1e5abfdc833415507cadc0f6e1ea82bd4a22e0c6031e", func := "loop.example/g00712/laws.FnExactDiffMem", spec := "fnExactDiffMem", apart := false, narrowed := true }
def FnExactDiffMemUptoSaid : Prop := fnExactDiffMemUptoRow.holds Try.pinned (OpenSpec.upto fnExactDiffMemSpec)

/-- 'laws.FnExactClamp', WHERE WHAT IT READS IS OF BULK AT MOST 1048576: true; the input reads as it did. -/
def fnExactClampUptoRow : OpenClaim := { program := "ythlkppeciapkmaa", sum := "759b0ca910ed5f611eaa1e5abfdc833415507cadc0f6e1ea82bd4a22e0c6031e", func := "loop.example/g00712/laws.FnExactClamp", spec := "fnExactClamp", apart := false, narrowed := true }
def FnExactClampUptoSaid : Prop := fnExactClampUptoRow.holds Try.pinned (OpenSpec.upto fnExactClampSpec)

end Rows
end Go.Proofs.Ythlkppeciapkmaa
