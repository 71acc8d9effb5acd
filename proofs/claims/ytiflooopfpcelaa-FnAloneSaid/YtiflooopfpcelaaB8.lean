/- ReadThrough, both sides. Condition: the slices can be read. -/
import Derived.Test.YtiflooopfpcelaaB7
namespace Go.Proofs.Ytiflooopfpcelaa
set_option maxRecDepth 20000
set_option linter.unusedSimpArgs false
set_option linter.unusedVariables false
open Go.ChangeShapes Go.WideShapes Go.ChangeAt Go.RowKit
set_option linter.unusedVariables false
def pickF (xs : List P2) (ms : List Int) (a : Int) : Int := match newestF xs a with | some x => x.b | none => peekF ms a
def readF3 (xs : List P2) (ms : List Int) (a : Int) : Int := if bufOk xs && memOk ms then pickF xs ms a else 0
theorem newest_take {xs : List P2} {k : Nat} {x : P2} {a : Int} (h : xs[k]? = some x) : newestF (xs.take (k + 1)) a = if x.a == a then some x else newestF (xs.take k) a := by
  unfold newestF
  rw [List.take_add_one, h]
  simp only [Option.toList_some, List.reverse_append, List.reverse_cons, List.reverse_nil, List.nil_append, List.singleton_append, List.find?_cons]
  cases x.a == a <;> rfl
theorem pick_take {xs : List P2} {k : Nat} {x : P2} {a : Int} {ms : List Int} (h : xs[k]? = some x) : pickF (xs.take (k + 1)) ms a = if x.a == a then x.b else pickF (xs.take k) ms a := by
  unfold pickF
  rw [newest_take h]
  cases x.a == a <;> rfl
set_option maxHeartbeats 1600000 in
theorem impl_ReadThrough (v u : Value) (xs : List P2) (ms : List Int) (a : Int) (w : World) (h : Rd w v 2 xs.length (flc2 xs)) (hm : Rd w u 1 ms.length (ints ms)) (ha : (Lit.int .i64 a).wf = true) :
    Calls Try.prog 165 #[v, .agg #[u], .int .i64 a] w fun e w' => e = .returned (.int .i64 (readF3 xs ms a)) ∧ Below w.heap.size w w' := by
  obtain ⟨A, c, rfl, -, -, -, -⟩ := id h
  obtain ⟨Am, cm, rfl, -⟩ := id hm
  have hBa := ((Below.refl w.heap.size w).alloc (Nat.le_refl _) (.cells #[.slice Am ms.length cm] 38)).alloc (by simp) (.cells #[.int .i64 a] 3)
  have k1 := (Bk.new w #[.slice Am ms.length cm] 38).alloc (.cells #[.int .i64 a] 3)
  have k2 := Bk.new (w.alloc (.cells #[.slice Am ms.length cm] 38)) #[.int .i64 a] 3
  rw [World.size_alloc] at k2
  have HR : Hid (∀ W, Below w.heap.size w W → Rd W (.slice A xs.length c) 2 xs.length (flc2 xs)) := Lib.hid fun W hW => h.below hW
  have HM : Hid (∀ W, Below w.heap.size w W → Rd W (.slice Am ms.length cm) 1 ms.length (ints ms)) := Lib.hid fun W hW => hm.below hW
  clear h hm
  obtain ⟨hc1, -⟩ := k1.at_ 0 (x := .slice Am ms.length cm) rfl
  have HBa := Lib.hid hBa
  have K1 := Lib.hid k1
  have K2 := Lib.hid k2
  clear hBa k1 k2
  go_enter Try.func165, Try.ntmps165
  go_wp2_with fail
  refine (impl_BufOk _ xs _ (HR.out _ HBa.out)).mono ?_
  rintro e w3 ⟨rfl, hb3⟩
  have hB3 := HBa.out.trans (hb3.mono HBa.out.size)
  have k13 := K1.out.below hb3 K1.out.lt
  have k23 := K2.out.below hb3 K2.out.lt
  clear hc1
  obtain ⟨hc1, -⟩ := k13.at_ 0 (x := .slice Am ms.length cm) rfl
  cases hb : bufOk xs
  · have HF : Hid (readF3 xs ms a = 0) := Lib.hid (by simp [readF3, hb])
    clear hb
    go_wp2_with fail
    go_ret
    exact ⟨ret_int HF.out.symm, hB3⟩
  · have HB := Lib.hid hb
    clear hb
    go_wp2_with fail
    refine (impl_MemOk _ ms _ (HM.out _ hB3)).mono ?_
    rintro e w4 ⟨rfl, hb4⟩
    have hB4 := hB3.trans (hb4.mono hB3.size)
    have k14 := k13.below hb4 k13.lt
    have k24 := k23.below hb4 k23.lt
    obtain ⟨hc4, -⟩ := k14.at_ 0 (x := .slice Am ms.length cm) rfl
    obtain ⟨hd4, -⟩ := k24.at_ 0 (x := .int .i64 a) rfl
    clear hc1 k13 k23
    cases hmo : memOk ms
    · have HF : Hid (readF3 xs ms a = 0) := Lib.hid (by simp [readF3, hmo])
      clear hmo
      go_wp2_with fail
      go_ret
      exact ⟨ret_int HF.out.symm, hB4⟩
    · have HF : Hid (readF3 xs ms a = pickF xs ms a) := Lib.hid (by simp [readF3, hmo, HB.out])
      clear hmo
      go_wp2_with fail
      refine (impl_newest _ xs _ a _ (HR.out _ hB4) hd4 k24.lt).mono ?_
      rintro e w5 ⟨rfl, hb5⟩
      have hB5' := hB4.trans (hb5.mono hB4.size)
      have hnew : (∃ x, newestF xs a = some x ∧ newR xs a = (x, true)) ∨ (newestF xs a = none ∧ newR xs a = (⟨0, 0⟩, false)) := by
        unfold newR
        cases hn : newestF xs a with
        | none => exact .inr ⟨rfl, rfl⟩
        | some x => exact .inl ⟨x, rfl, rfl⟩
      rcases hnew with ⟨x, hn, hR⟩ | ⟨hn, hR⟩
      · have HF2 : Hid (readF3 xs ms a = x.b) := Lib.hid (by rw [HF.out, pickF, hn])
        have hB6 := hB5'.alloc hB5'.size (.cells #[.int .i64 x.a, .int .i64 x.b] 94)
        rw [hR]
        clear hn hR hc4 hd4
        go_wp2_with fail
        go_ret
        exact ⟨ret_int HF2.out.symm, hB6⟩
      · have HF2 : Hid (readF3 xs ms a = peekF ms a) := Lib.hid (by rw [HF.out, pickF, hn])
        have hB6 := hB5'.alloc hB5'.size (.cells #[.int .i64 0, .int .i64 0] 94)
        have k15 := (k14.below hb5 k14.lt).alloc (.cells #[.int .i64 0, .int .i64 0] 94)
        have k25 := (k24.below hb5 k24.lt).alloc (.cells #[.int .i64 0, .int .i64 0] 94)
        rw [hR]
        clear hn hR hc4 hd4
        obtain ⟨hc5, -⟩ := k15.at_ 0 (x := .slice Am ms.length cm) rfl
        obtain ⟨hd5, -⟩ := k25.at_ 0 (x := .int .i64 a) rfl
        go_wp2_with fail
        refine (impl_Peek _ ms a _ (HM.out _ hB6) ha).mono ?_
        rintro e w6 ⟨rfl, hb6⟩
        go_wp2_with fail
        go_ret
        exact ⟨ret_int HF2.out.symm, hB6.trans (hb6.mono hB6.size)⟩
end Go.Proofs.Ytiflooopfpcelaa
