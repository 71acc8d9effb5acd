/- The text of an instruction, as the model makes it. Condition: the fields are integers of 64 bits. -/
import Derived.Test.YtgbgjlmkmlhefaaGreatDoorNum
import Derived.Test.YtgbgjlmkmlhefaaGreatDoorS2b
namespace Go.Proofs.YtgbgjlmkmlhefaaGreatDoor
set_option maxRecDepth 20000
set_option linter.unusedSimpArgs false
set_option linter.unusedVariables false
open Go.ChangeShapes Go.WideShapes Go.ChangeAt Go.RowKit
set_option linter.unusedVariables false
def wordTab : List (List UInt8) := [[115, 101, 116], [97, 100, 100], [108, 111, 97, 100], [115, 116, 111, 114, 101], [102, 101, 110, 99, 101], [99, 97, 115], [106, 122], [115, 119, 97, 112], [115, 117, 98]]
def wordF (o : Int) : List UInt8 := wordTab.getD o.toNat []
def fldF (i : Ins) (c : UInt8) : Int := if c = 114 then i.r else if c = 115 then i.s else i.n
def argF (i : Ins) (c : UInt8) : List UInt8 := 32 :: Lib.itoa (fldF i c)
def instrTF (i : Ins) : List UInt8 := if inB i.o 0 8 then wordF i.o ++ (formF i.o).flatMap (argF i) else []
def Rng (x : Int) : Prop := -9223372036854775808 ≤ x ∧ x ≤ 9223372036854775807
def InsR (i : Ins) : Prop := Rng i.o ∧ Rng i.r ∧ Rng i.s ∧ Rng i.n
theorem fldF_rng {i : Ins} (h : InsR i) (c : UInt8) : Rng (fldF i c) := by
  unfold fldF
  split
  · exact h.2.1
  · split
    · exact h.2.2.1
    · exact h.2.2.2
theorem argF_len {i : Ins} (h : InsR i) (c : UInt8) : (argF i c).length ≤ 21 := by
  have := digs_len (fldF_rng h c)
  simp [argF]
  omega
theorem formF_mem {o : Int} (h : inB o 0 8 = true) : ∀ c ∈ formF o, c = 114 ∨ c = 115 ∨ c = 110 := by
  rcases op_cases h with rfl | rfl | rfl | rfl | rfl | rfl | rfl | rfl | rfl <;> decide
theorem wordF_len {o : Int} (h : inB o 0 8 = true) : (wordF o).length ≤ 5 := by
  rcases op_cases h with rfl | rfl | rfl | rfl | rfl | rfl | rfl | rfl | rfl <;> decide
theorem flat_len {i : Ins} (h : InsR i) : ∀ l : List UInt8, (l.flatMap (argF i)).length ≤ 21 * l.length
  | [] => by simp
  | c :: l => by
    have h1 := argF_len h c
    have h2 := flat_len h l
    simp only [List.flatMap_cons, List.length_append, List.length_cons]
    omega
theorem instrTF_len {i : Ins} (h : InsR i) : (instrTF i).length ≤ 68 := by
  unfold instrTF
  split
  · rename_i hin
    have h1 := wordF_len hin
    have h2 := flat_len h (formF i.o)
    have h3 := formF_len i.o
    rw [List.length_append]
    omega
  · simp
set_option maxHeartbeats 1600000 in
theorem l02Word (o : Int) (w : World) (hin : inB o 0 8 = true) :
    Calls Tryz.prog 103 #[.int .i64 o] w fun e w' => e = .returned (str (wordF o)) ∧ Below w.heap.size w w' := by
  rcases op_cases hin with rfl | rfl | rfl | rfl | rfl | rfl | rfl | rfl | rfl
  all_goals
    go_enter Tryz.func103, Tryz.ntmps103
    go_wp2_with fail
    go_ret
    exact ⟨rfl, (Below.refl _ _).alloc (Nat.le_refl _) _⟩
end Go.Proofs.YtgbgjlmkmlhefaaGreatDoor
