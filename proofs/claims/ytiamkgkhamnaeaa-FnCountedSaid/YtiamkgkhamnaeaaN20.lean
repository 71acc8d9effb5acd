/- Contracts of slices.IndexFunc and slices.DeleteFunc by FreeSome's closure: what is not in a set goes. Conditions: the row can be read (is one's own) and holds numbers of 64 bits. -/
import Derived.Test.YtiamkgkhamnaeaaN19
namespace Go.Proofs.Ytiamkgkhamnaeaa
set_option maxRecDepth 20000
set_option linter.unusedSimpArgs false
set_option linter.unusedVariables false
open Go.ChangeShapes Go.WideShapes Go.ChangeAt Go.RowKit Go.Maps
set_option linter.unusedVariables false
/-- block p holds the map in block g, which is the set wf -/
structure SetAt (w : World) (p g n : Nat) (D : DU) (wf : List Int) : Prop where
  cell : w.cell? ⟨p, 0, none⟩ = some (.map (some g))
  lt : p < w.heap.size
  map : w.ownsMap Try.prog 3 (plainElem Try.prog 4) g n D
  set : SetM D wf
theorem SetAt.only {w w' : World} {p g n : Nat} {D : DU} {wf : List Int} {b : Nat} (h : SetAt w p g n D wf) (ho : Only [b] w w') (h1 : p ≠ b) (h2 : g ≠ b) : SetAt w' p g n D wf :=
  ⟨(World.cell?_of_block (a := ⟨p, 0, none⟩) (ho.block p h.lt (by simpa using h1))).trans h.cell, Nat.lt_of_lt_of_le h.lt ho.size, by
    obtain ⟨es, clock, hg, F, hs, hD⟩ := h.map
    exact ⟨es, clock, (ho.block g h.map.lt (by simpa using h2)).trans hg, F, hs, hD⟩, h.set⟩
set_option maxHeartbeats 800000 in
theorem free_look (p g n : Nat) (D : DU) (wf : List Int) (x : Int) (w : World) (h : SetAt w p g n D wf) (hw : (Lit.int .i64 x).wf = true) :
    Calls Try.prog 89 #[.int .i64 x, .pointer (some ⟨p, 0, none⟩)] w fun e w' => e = .returned (.bool (!decide (x ∈ wf))) ∧ w = w' := by
  have hp := h.cell
  have hM := h.map
  have hat := h.set.2 x
  go_enter Try.func89, Try.ntmps89
  go_wp2_with (at_lookup; refine wpList_lookup_own_boolG _ rfl _ _ _ rfl 3 4 intK Try.underlying107 Try.underlying4 (zeroBool _) g n D rfl hM _ (kI x) rfl (keyOf_int_mk Try.underlying3 hw) _ hat ?_)
  go_ret
  exact ⟨rfl, rfl⟩
set_option maxHeartbeats 1600000 in
theorem indexFuncI (v : Value) (xs : List Int) (p g n : Nat) (D : DU) (wf : List Int) (w : World) (h : Rd w v 1 xs.length (ints xs)) (hs : SetAt w p g n D wf) (hw : ∀ x ∈ xs, (Lit.int .i64 x).wf = true) :
    Calls Try.prog 112 #[v, .func (.func 89) #[] #[.pointer (some ⟨p, 0, none⟩)]] w fun e w' => ∃ r : Int, e = .returned (.int .i64 r) ∧ ((r = -1 ∧ ∀ y ∈ xs, y ∈ wf) ∨ ∃ k : Nat, r = k ∧ k < xs.length ∧ (∀ y ∈ xs.take k, y ∈ wf) ∧ ∀ y, xs[k]? = some y → y ∉ wf) ∧ w = w' := by
  obtain ⟨A, c, rfl, -, hnc, hc, hr⟩ := h
  unfold maxLen at hc
  have HT : Hid (∀ x ∈ xs, Calls Try.prog 89 #[.int .i64 x, .pointer (some ⟨p, 0, none⟩)] w fun e w' => e = .returned (.bool (!decide (x ∈ wf))) ∧ w = w') := Lib.hid (fun x hx => free_look p g n D wf x w hs (hw x hx))
  clear hs hw
  go_enter Try.func112, Try.ntmps112
  go_wp2_with fail
  go_loop [8] (fun i => ∃ k : Nat, k ≤ xs.length ∧ i = .int .i64 k ∧ Hid (∀ y ∈ xs.take k, y ∈ wf)) (fun i => xs.length - (intOf i).toNat)
  case atStart => exact ⟨0, Nat.zero_le _, rfl, Lib.hid (by simp)⟩
  case round =>
    obtain ⟨k, hk, rfl, HA⟩ := hrel
    by_cases hlt : k < xs.length
    · obtain ⟨b, o, rfl, hb, hcell⟩ := hr (by omega)
      obtain ⟨x, hxk, hx⟩ := int_at hcell hlt
      have hq := HT.out x (List.mem_of_getElem? hxk.out)
      clear hcell hr
      by_cases hm : x ∈ wf
      · rw [show (!decide (x ∈ wf)) = false by simp [hm]] at hq
        have HQ := Lib.hid hq
        have HN := Lib.hid (mem_take_snoc HA.out hxk.out hm)
        clear hq hm
        go_wp2_with (go_at_call 89; refine HQ.out.mono ?_; rintro e w1 ⟨rfl, rfl⟩)
        exact ⟨⟨k + 1, by omega, by go_num, HN⟩, by simp [intOf]; omega⟩
      · rw [show (!decide (x ∈ wf)) = true by simp [hm]] at hq
        have HQ := Lib.hid hq
        have HN := Lib.hid hm
        clear hq hm
        go_wp2_with (go_at_call 89; refine HQ.out.mono ?_; rintro e w1 ⟨rfl, rfl⟩)
        go_ret
        exact ⟨_, rfl, .inr ⟨k, rfl, hlt, HA.out, fun y hy => by rw [hxk.out] at hy; injection hy with hy; rw [← hy]; exact HN.out⟩, rfl⟩
    · have HN : Hid (∀ y ∈ xs, y ∈ wf) := Lib.hid (by have := HA.out; rwa [List.take_of_length_le (by omega)] at this)
      go_wp2_with fail
      go_ret
      exact ⟨_, rfl, .inl ⟨rfl, HN.out⟩, rfl⟩
end Go.Proofs.Ytiamkgkhamnaeaa
