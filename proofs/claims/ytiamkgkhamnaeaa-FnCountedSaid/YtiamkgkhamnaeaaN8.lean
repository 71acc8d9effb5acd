/- Contracts of impl.SafeBench and what it calls: a set of a row, a look-up in it by a closure, ContainsFunc. Conditions: the bench's rows can be read and hold numbers of 64 bits; lengths that a law bounds. -/
import Derived.Test.YtiamkgkhamnaeaaN6
import Derived.Test.YtiamkgkhamnaeaaN7
namespace Go.Proofs.Ytiamkgkhamnaeaa
set_option maxRecDepth 20000
set_option linter.unusedSimpArgs false
set_option linter.unusedVariables false
open Go.ChangeShapes Go.WideShapes Go.ChangeAt Go.RowKit Go.Maps
set_option linter.unusedVariables false
/-- returns a map of its own that is the set of xs -/
def RetSet (xs : List Int) (w : World) (e : Ending) (w' : World) : Prop :=
  ∃ (g : Nat) (D : DU), e = .returned (.map (some g)) ∧ w'.ownsMap Try.prog 3 (plainElem Try.prog 4) g xs.length D ∧ SetM D xs ∧ w.heap.size ≤ g ∧ Below w.heap.size w w'
set_option maxHeartbeats 1600000 in
theorem impl_setOf (v : Value) (xs : List Int) (w : World) (h : Rd w v 1 xs.length (ints xs)) (hw : ∀ x ∈ xs, (Lit.int .i64 x).wf = true) (hsz : xs.length ≤ 16777216) :
    Calls Try.prog 86 #[v] w (RetSet xs w) := by
  obtain ⟨A, c, rfl, -, hnc, hc, hr⟩ := h
  unfold maxLen at hc
  have hM := World.ownsMap_made (H := Unit) w Try.prog 3 (plainElem Try.prog 4)
  have hB0 := (Below.refl w.heap.size w).alloc (Nat.le_refl _) (.map #[] 0)
  have hmm := @run_makeMap Try.prog
  have HW := Lib.hid hw
  clear hw
  go_enter Try.func86, Try.ntmps86
  go_wp2_with fail
  go_loopw [9] (fun i wr => ∃ (k : Nat) (D : DU), k ≤ xs.length ∧ i = .int .i64 k ∧ wr.ownsMap Try.prog 3 (plainElem Try.prog 4) w.heap.size k D ∧ Hid (SetM D (xs.take k)) ∧ Below w.heap.size w wr) (fun i _ => xs.length - (intOf i).toNat)
  case atStart => exact ⟨0, .map [], Nat.zero_le _, rfl, hM, Lib.hid SetM.nil, hB0⟩
  case round =>
    obtain ⟨k, D, hk, rfl, hM', HS, hB⟩ := hrel
    clear hM hB0 hmm
    by_cases hlt : k < xs.length
    · obtain ⟨b, o, rfl, hb, hcell⟩ := hr (by omega)
      obtain ⟨x, hxk, hx⟩ := int_at (fun j u hu => (hB.cell (p := ⟨b, o + j, none⟩) hb).trans (hcell j u hu)) hlt
      have hwx := HW.out x (List.mem_of_getElem? hxk.out)
      clear hcell hr
      go_wp2_with (at_mapUpdate; refine wpList_mapUpdate_own _ rfl _ _ _ 107 rfl 3 4 intK Try.underlying107 _ w.heap.size k D rfl hM' (by unfold maxLen; omega) _ _ (kI x) rfl rfl (keyOf_int_mk Try.underlying3 hwx) (dB true) [] (plainElem_bool Try.underlying4 true) ?_; intro w2 hown2 hgr2)
      have hBn := hB.grown hgr2 hB.size (by intro j hj; injection hj with hj; omega)
      have HN : Hid (SetM (D.put (kI x) (dB true)) (xs.take (k + 1))) := Lib.hid (by
        rw [List.take_add_one, hxk.out]
        exact HS.out.add x)
      go_wp2_with fail
      exact ⟨⟨k + 1, _, by omega, by go_num, hown2, HN, hBn⟩, by simp [intOf]; omega⟩
    · obtain rfl : k = xs.length := by omega
      have hs := HS.out
      rw [List.take_length] at hs
      have HS2 := Lib.hid hs
      clear hs HS
      go_wp2_with fail
      go_ret
      exact ⟨_, D, rfl, hM', HS2.out, Nat.le_refl _, hB⟩
end Go.Proofs.Ytiamkgkhamnaeaa
