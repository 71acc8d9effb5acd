/- Contracts of chapter 3's model functions (package spec): DrainAll. Condition: the slices can be read. -/
import Derived.Test.YtiflooopfpcelaaB3
import Derived.Deep.RegionHeld3
import Derived.Deep.DeepCutAuto
namespace Go.Proofs.Ytiflooopfpcelaa
set_option maxRecDepth 20000
set_option linter.unusedSimpArgs false
set_option linter.unusedVariables false
open Go.ChangeShapes Go.WideShapes Go.ChangeAt Go.RowKit
set_option linter.unusedVariables false
def runF : List P2 → List Int → Option (List Int)
  | [], ms => some ms
  | x :: xs, ms => if pokeOk ms x.a x.b then runF xs (pokeF ms x.a x.b) else none
def daOk (xs : List P2) (ms : List Int) : Bool := bufOk xs && memOk ms && (runF xs ms).isSome
def daF (xs : List P2) (ms : List Int) : List Int := if bufOk xs && memOk ms then (runF xs ms).getD ms else ms
theorem runF_len : ∀ {xs : List P2} {ms ns : List Int}, runF xs ms = some ns → ns.length = ms.length
  | [], ms, ns, h => by simp only [runF, Option.some.injEq] at h; rw [h]
  | x :: xs, ms, ns, h => by
    unfold runF at h
    split at h
    · rw [runF_len h, pokeF_len]
    · cases h
theorem daF_len (xs : List P2) (ms : List Int) : (daF xs ms).length = ms.length := by
  unfold daF
  split
  · cases h : runF xs ms with
    | none => rfl
    | some ns => exact runF_len h
  · rfl
theorem runF_drop {xs : List P2} {k : Nat} {x : P2} {M : List Int} (h : xs[k]? = some x) : runF (xs.drop k) M = if pokeOk M x.a x.b then runF (xs.drop (k + 1)) (pokeF M x.a x.b) else none := by
  obtain ⟨h1, h2⟩ := List.getElem?_eq_some_iff.1 h
  rw [List.drop_eq_getElem_cons h1, h2]
  rfl
/-- the end of DrainAll: a copy of the memory, in the result's cell -/
theorem mem_back {w wc w7 : World} {ms L : List Int} {ok o2 : Bool} {A7 : Option Addr} {c7 : Nat} {bs7 : List Nat} {x : Value} (hB : Below w.heap.size w wc) (hlc : w.heap.size + 2 ≤ wc.heap.size) (h7 : Own w7 (.slice A7 ms.length c7) 1 ms.length (ints ms) bs7) (hbs7 : ∀ b ∈ bs7, wc.heap.size ≤ b) (hb7 : Below wc.heap.size wc w7)
    (HF : L = ms ∧ ok = o2) : RetMemB L ok w (.returned (.tuple #[.agg #[.slice A7 ms.length c7], .bool o2])) (w7.setCell ⟨w.heap.size + 1, 0, none⟩ x) := by
  obtain ⟨rfl, rfl⟩ := HF
  exact ⟨_, bs7, rfl, h7.far fun k hk => by have := hbs7 k hk; omega, fun b hb => by have := hbs7 b hb; omega, (hB.trans (hb7.mono hB.size)).setCell (Nat.le_succ _) _⟩
end Go.Proofs.Ytiflooopfpcelaa
