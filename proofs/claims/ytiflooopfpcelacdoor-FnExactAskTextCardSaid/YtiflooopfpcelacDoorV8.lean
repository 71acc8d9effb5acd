/- What chapter 6's functions answer, as plain functions over lists. An atom has the shape of an instruction: Kind o, T r, X s, V n. No condition. -/
import Derived.Test.YtiflooopfpcelacDoorV4
namespace Go.Proofs.YtiflooopfpcelacDoor
set_option maxRecDepth 20000
set_option linter.unusedSimpArgs false
set_option linter.unusedVariables false
def atomOkF (a : Ins) (p : Pr) : Bool := progOkF p && valB a.n && (if a.o = 0 then inB a.r 0 (p.x.length - 1) && inB a.s 0 3 else a.o == 1 && a.r == 0 && inB a.s 0 (p.c - 1))
def thAt (M : Ma) (k : Nat) : Th := M.ths.getD k ⟨0, [], []⟩
def atomHolds (M : Ma) (a : Ins) : Bool :=
  if a.o = 0 then inB a.r 0 (M.ths.length - 1) && inB a.s 0 ((thAt M a.r.toNat).v.length - 1) && decide ((thAt M a.r.toNat).v.getD a.s.toNat 0 = a.n)
  else if a.o = 1 then inB a.s 0 (M.mem.length - 1) && decide (M.mem.getD a.s.toNat 0 = a.n) else false
def holdsF (M : Ma) (xs : List Ins) : Bool := decide (xs.length ≤ 8) && xs.all (atomHolds M)
theorem holdsF_big {M : Ma} {xs : List Ins} (h : ¬ xs.length ≤ 8) : holdsF M xs = false := by simp [holdsF, h]
theorem holdsF_of {M : Ma} {xs : List Ins} (h : xs.length ≤ 8) : holdsF M xs = xs.all (atomHolds M) := by simp [holdsF, h]
end Go.Proofs.YtiflooopfpcelacDoor
