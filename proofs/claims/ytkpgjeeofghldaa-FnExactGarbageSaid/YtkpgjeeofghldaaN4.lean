/- Contracts of slices.Grow of a nil row of numbers and of slices.Concat of rows of numbers. Conditions: the rows can be read; at most 16777216 numbers in all. -/
import Derived.Test.YtkpgjeeofghldaaN2
import Derived.Test.YtkpgjeeofghldaaRdap
import Derived.Lib.AppendZerosOnto
namespace Go.Proofs.Ytkpgjeeofghldaa
set_option maxRecDepth 20000
set_option linter.unusedSimpArgs false
set_option linter.unusedVariables false
open Go.ChangeShapes Go.WideShapes Go.ChangeAt Go.RowKit Go.Maps
set_option linter.unusedVariables false
set_option maxHeartbeats 1600000 in
theorem grow_nil (n : Nat) (w : World) (hn : n ≤ 16777216) :
    Calls Try.prog 28 #[.slice none 0 0, .int .i64 n] w fun e w' => ∃ v', e = .returned v' ∧ w'.ownsRow w.heap.size 3 1 v' 0 [] ∧ Below w.heap.size w w' := by
  obtain ⟨i, hi, hz0, hz1, hz2⟩ := info_parts infoInt
  by_cases h0 : n = 0
  · subst h0
    go_enter Try.func28, Try.ntmps28
    go_wp2
    go_ret
    exact ⟨_, rfl, ⟨rfl, .inl ⟨rfl, rfl⟩⟩, Below.refl _ _⟩
  · have hap : ∀ ty, (Builtin.append_ #[22, 3] ty #[.slice none 0 0, .int .i64 (n : Int)]).run Try.prog w =
        .ok (.slice (some ⟨w.heap.size, 0, none⟩) n (grownCap w n 0 3)) (w.drew.alloc (.cells ((#[] : Array Value) ++ Builtin.zeroCells (Value.int .i64 0).cells n ++ Builtin.zeroCells (Value.int .i64 0).cells (grownCap w n 0 3 - n)) 3)) := fun ty => by
      have h := Lib.run_append_grow_zeros w 22 3 ty 3 i (.int .i64 0) .i64 .i64 Try.underlying22 Try.underlying3 hi hz0 none 0 0 [] (by simp [Builtin.firstCells]) n (by omega) (by omega) (by omega) (by omega) (by rw [hz2]; omega)
        (growslice_fits (by omega) (by rw [hz2]; omega))
      simpa using h
    have hge : n ≤ grownCap w n 0 3 := grownCap_ge w _ _ _
    have hle : grownCap w n 0 3 ≤ maxLen := grownCap_le_maxLen w _ _ _ (by unfold maxLen; omega)
    obtain ⟨G, hG⟩ : ∃ G, G = grownCap w n 0 3 := ⟨_, rfl⟩
    rw [← hG] at hap hge hle
    have hc : ((#[] : Array Value) ++ Builtin.zeroCells (Value.int .i64 0).cells n ++ Builtin.zeroCells (Value.int .i64 0).cells (G - n)).size = G * 1 := by
      simp [size_zeroCells, Value.cells]
      omega
    obtain ⟨cs, hcs⟩ : ∃ cs, cs = ((#[] : Array Value) ++ Builtin.zeroCells (Value.int .i64 0).cells n ++ Builtin.zeroCells (Value.int .i64 0).cells (G - n)) := ⟨_, rfl⟩
    rw [← hcs] at hap hc
    have hle' : G ≤ 9223372036854775807 := by unfold maxLen at hle; omega
    have HO : Hid ((w.drew.alloc (.cells cs 3)).ownsRow w.heap.size 3 1 (.slice (some ⟨w.heap.size, 0, none⟩) 0 G) 0 []) :=
      Lib.hid ⟨rfl, .inr ⟨_, G, cs, rfl, Nat.le_refl _, heap_alloc_new w.drew _, Nat.zero_le _, hle, hc, by simp⟩⟩
    have HB : Hid (Below w.heap.size w (w.drew.alloc (.cells cs 3))) := Lib.hid ((Below.refl _ _).drew.alloc (Nat.le_refl _) _)
    clear hG hcs hc hle
    go_enter Try.func28, Try.ntmps28
    go_wp2_with (at_builtin; refine Lib.wpList_append_run _ rfl _ _ _ _ rfl _ _ rfl rfl _ _ (hap _) ?_)
    all_goals
      go_ret
      exact ⟨_, rfl, HO.out, HB.out⟩
theorem flat_take {xss : List (List Int)} {k : Nat} {xs : List Int} (h : xss[k]? = some xs) : (xss.take (k + 1)).flatten = (xss.take k).flatten ++ xs := by
  rw [List.take_add_one, h]
  simp
theorem flat_take_le (xss : List (List Int)) (k : Nat) : (xss.take k).flatten.length ≤ xss.flatten.length := by
  conv => rhs; rw [← List.take_append_drop k xss]
  rw [List.flatten_append, List.length_append]
  omega
set_option maxHeartbeats 1600000 in
theorem concat_ints (sv : Value) (vs : List Value) (xss : List (List Int)) (w : World) (hl : vs.length = xss.length) (h : Rd w sv 1 vs.length vs)
    (hv : ∀ (k : Nat) (v : Value) (xs : List Int), vs[k]? = some v → xss[k]? = some xs → Rd w v 1 xs.length (ints xs)) (hsz : xss.flatten.length ≤ 16777216) (hvs : vs.length ≤ 1000) :
    Calls Try.prog 24 #[sv] w (RetInts xss.flatten w) := by
  obtain ⟨A, c, rfl, -, hnc, hc, hr⟩ := h
  unfold maxLen at hc
  obtain ⟨i, hi, hiz0, hiz1, hiz2⟩ := info_parts infoInt
  have HV := Lib.hid hv
  clear hv
  go_enter Try.func24, Try.ntmps24
  go_wp2_with fail
  go_loop [3, 11] (fun s i => ∃ (k n : Nat), k ≤ vs.length ∧ i = .int .i64 k ∧ s = .int .i64 n ∧ Hid (n = (xss.take k).flatten.length)) (fun _ i => vs.length - (intOf i).toNat)
  case atStart => exact ⟨0, 0, Nat.zero_le _, rfl, rfl, Lib.hid (by simp)⟩
  case round =>
    obtain ⟨k, n, hk, rfl, rfl, HN⟩ := hrel
    by_cases hlt : k < vs.length
    · obtain ⟨b, o, rfl, hb, hcell⟩ := hr (by omega)
      have hvk : vs[k]? = some vs[k] := List.getElem?_eq_getElem hlt
      have hxk : xss[k]? = some (xss[k]'(by omega)) := List.getElem?_eq_getElem (by omega)
      have hx := hcell k _ hvk
      obtain ⟨A', c', he, -, hn', hc', -⟩ := HV.out k _ _ hvk hxk
      rw [he] at hx
      have hle1 := flat_take_le xss k
      have hle2 := flat_take_le xss (k + 1)
      have hf := congrArg List.length (flat_take hxk)
      rw [List.length_append] at hf
      have hnn := HN.out
      obtain ⟨m, hm⟩ : ∃ m, m = (xss[k]'(by omega)).length := ⟨_, rfl⟩
      rw [← hm] at hf hx
      have HNN : Hid (n + m = (xss.take (k + 1)).flatten.length) := Lib.hid (by omega)
      have hb3 : n + m ≤ 16777216 := by omega
      clear hcell hr hf hle1 hle2 he hvk hxk hm hnn
      go_wp2_with fail
      exact ⟨⟨k + 1, n + m, by omega, by go_num, by go_num, HNN⟩, by simp [intOf]; omega⟩
    · obtain rfl : k = vs.length := by omega
      have hn3 : n ≤ 16777216 := by have := HN.out; have := flat_take_le xss vs.length; omega
      clear HN
      go_wp2_with fail
      refine (grow_nil n _ hn3).mono ?_
      rintro e w1 ⟨v', rfl, hO, hB⟩
      go_wp2_with fail
      go_loopw [6, 27] (fun s i wr => ∃ (k m : Nat), k ≤ vs.length ∧ i = .int .i64 k ∧ wr.ownsRow w.heap.size 3 1 s m (ints (xss.take k).flatten) ∧ Below w.heap.size w wr) (fun _ i _ => vs.length - (intOf i).toNat)
      case atStart => exact ⟨0, 0, Nat.zero_le _, rfl, by simpa [ints] using hO, hB⟩
      case round =>
        obtain ⟨k, m, hk, rfl, hO, hB⟩ := hrel
        by_cases hlt : k < vs.length
        · obtain ⟨b, o, rfl, hb, hcell⟩ := hr (by omega)
          have hvk : vs[k]? = some vs[k] := List.getElem?_eq_getElem hlt
          have hxk : xss[k]? = some (xss[k]'(by omega)) := List.getElem?_eq_getElem (by omega)
          have hx := hcell k _ hvk
          have hx2 := (hB.cell (p := ⟨b, o + k, none⟩) hb).trans hx
          have hR := (HV.out k _ _ hvk hxk).below hB
          obtain ⟨A', c', he, -, hn', hc', -⟩ := HV.out k _ _ hvk hxk
          rw [he] at hx2 hR
          have hle2 := flat_take_le xss (k + 1)
          have hf := flat_take hxk
          have hmm := hO.1
          rw [ints_len] at hmm
          have hfl := congrArg List.length hf
          rw [List.length_append] at hfl
          have hbm : m + (xss[k]'(by omega)).length ≤ 16777216 := by omega
          obtain ⟨ys, hys⟩ : ∃ ys, ys = (xss[k]'(by omega)) := ⟨_, rfl⟩
          rw [← hys] at hR hx2 hf hbm
          have HF := Lib.hid hf
          have hsz2 := hB.size
          clear hcell hr he hvk hxk hys hf hfl hx hle2 hmm
          go_wp2_with (at_builtin; refine wpList_append_rd _ rfl _ _ 22 rfl w.heap.size 3 i (.int .i64 0) 1 8 Try.underlying22 hi hiz0 hiz1 hiz2 rfl (by decide) _ _ _ rfl hO _ ys.length (ints ys) rfl hR (by simp [ints, Value.oneCell']) (by unfold maxLen; omega) (by omega) hB.size ?_; intro v9 w9 hO9 hg9)
          have hB9 := hB.grown hg9 hB.size (fun k hk => (hO.lt k hk).1)
          have hO9' : w9.ownsRow w.heap.size 3 1 v9 (m + ys.length) (ints (xss.take (k + 1)).flatten) := by
            rw [HF.out]
            simpa [ints] using hO9
          clear hO9
          go_wp2_with fail
          exact ⟨⟨k + 1, _, by omega, by go_num, hO9', hB9⟩, by simp [intOf]; omega⟩
        · obtain rfl : k = vs.length := by omega
          have hmm := hO.1
          rw [ints_len] at hmm
          obtain ⟨bs, h1, h2⟩ := Own.of_owns hO
          rw [hl, List.take_length] at h1 hmm
          obtain rfl : m = xss.flatten.length := by omega
          go_wp2_with fail
          go_ret
          exact ⟨_, bs, rfl, h1, h2, hB⟩
end Go.Proofs.Ytkpgjeeofghldaa
