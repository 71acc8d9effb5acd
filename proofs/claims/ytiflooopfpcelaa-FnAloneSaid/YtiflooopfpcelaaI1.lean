/- Contracts of chapter 1's functions (package impl): what each returns, for every memory that can be read and every integer. -/
import Derived.Test.YtiflooopfpcelaaS1
import Derived.Deep.RegionLaw
import Derived.Laws.CopyOwn
namespace Go.Proofs.Ytiflooopfpcelaa
set_option maxRecDepth 20000
set_option linter.unusedSimpArgs false
set_option linter.unusedVariables false
open Go.ChangeShapes Go.WideShapes Go.ChangeAt Go.RowKit
set_option linter.unusedVariables false
set_option maxHeartbeats 400000 in
theorem impl_Clamp (x : Int) (w : World) :
    Calls Try.prog 131 #[.int .i64 x] w fun e w' => e = .returned (.int .i64 (clampF x)) ∧ w = w' := by
  go_enter Try.func131, Try.ntmps131
  go_wp2
  all_goals go_ret
  all_goals exact ⟨ret_int (by simp only [clampF]; omega), rfl⟩
set_option maxHeartbeats 400000 in
theorem impl_valueOk (x : Int) (w : World) :
    Calls Try.prog 93 #[.int .i64 x] w fun e w' => e = .returned (.bool (valB x)) ∧ w = w' := by
  have hv : (x == clampF x) = valB x := by
    rw [Bool.eq_iff_iff]
    simp only [beq_iff_eq, valB, inB, clampF, Bool.and_eq_true, decide_eq_true_eq]
    omega
  have HV := Lib.hid hv
  clear hv
  go_enter Try.func93, Try.ntmps93
  go_wp2_with (go_at_call 131; refine (impl_Clamp _ _).mono ?_; rintro e w' ⟨rfl, rfl⟩)
  all_goals go_ret
  exact ⟨ret_bool HV.out, rfl⟩
set_option maxHeartbeats 400000 in
theorem impl_indexOk (i n : Int) (w : World) :
    Calls Try.prog 89 #[.int .i64 i, .int .i64 n] w fun e w' => e = .returned (.bool (inB i 0 (n - 1))) ∧ w = w' := by
  by_cases h1 : 0 ≤ i
  · go_enter Try.func89, Try.ntmps89
    go_wp2
    go_ret
    exact ⟨ret_bool (by simp only [inB]; rw [Bool.eq_iff_iff]; simp [h1]; omega), rfl⟩
  · go_enter Try.func89, Try.ntmps89
    go_wp2
    go_ret
    exact ⟨ret_bool (by simp only [inB]; rw [Bool.eq_iff_iff]; simp; omega), rfl⟩
set_option maxHeartbeats 400000 in
theorem impl_MemOk (v : Value) (xs : List Int) (w : World) (h : Rd w v 1 xs.length (ints xs)) :
    Calls Try.prog 60 #[.agg #[v]] w fun e w' => e = .returned (.bool (memOk xs)) ∧ Below w.heap.size w w' := by
  obtain ⟨A, c, rfl, -, hnc, hc, hr⟩ := h
  unfold maxLen at hc
  have hsz : xs.length ≤ 9223372036854775807 := by omega
  by_cases h0 : (xs.length : Int) < 1
  · have hs : memOk xs = false := by simp [memOk, inB]; omega
    have HS := Lib.hid hs
    clear hs
    go_enter Try.func60, Try.ntmps60
    go_wp2_with fail
    go_ret
    exact ⟨ret_bool HS.out.symm, (Below.refl _ _).alloc (Nat.le_refl _) _⟩
  · by_cases h16 : (16 : Int) < xs.length
    · have hs : memOk xs = false := by simp [memOk, inB]; omega
      have HS := Lib.hid hs
      clear hs
      go_enter Try.func60, Try.ntmps60
      go_wp2_with fail
      go_ret
      exact ⟨ret_bool HS.out.symm, (Below.refl _ _).alloc (Nat.le_refl _) _⟩
    · have hin : inB xs.length 1 16 = true := by simp [inB]; omega
      obtain ⟨b, o, rfl, hb, hcell⟩ := hr (by omega)
      clear hr
      go_enter Try.func60, Try.ntmps60
      go_wp2_with fail
      go_loop [18] (fun i => ∃ k : Nat, k ≤ xs.length ∧ i = .int .i64 k ∧ Hid ((xs.take k).all valB = true)) (fun i => xs.length - (intOf i).toNat)
      case atStart => exact ⟨0, Nat.zero_le _, rfl, Lib.hid (by simp)⟩
      case round =>
        obtain ⟨k, hk, rfl, HA⟩ := hrel
        by_cases hlt : k < xs.length
        · obtain ⟨x, hxk, hx⟩ := int_at hcell hlt
          clear hcell
          cases hv : valB x
          · go_wp2_with (go_at_call 93; refine (impl_valueOk _ _).mono ?_; rintro e w' ⟨rfl, rfl⟩)
            go_ret
            exact ⟨ret_bool (by simp [memOk, all_not hxk.out hv]), (Below.refl _ _).alloc (Nat.le_refl _) _⟩
          · go_wp2_with (go_at_call 93; refine (impl_valueOk _ _).mono ?_; rintro e w' ⟨rfl, rfl⟩)
            exact ⟨⟨k + 1, by omega, by go_num, Lib.hid (all_snoc HA.out hxk.out hv)⟩, by simp [intOf]; omega⟩
        · go_wp2_with fail
          go_ret
          obtain rfl : k = xs.length := by omega
          have := HA.out
          rw [List.take_length] at this
          exact ⟨ret_bool (by simp [memOk, hin, this]), (Below.refl _ _).alloc (Nat.le_refl _) _⟩
/-- the cells of a block: the size, then sixteen cells -/
def blkc (xs : List Int) : Array Value := (Value.int .i64 xs.length :: (ints xs ++ List.replicate (16 - xs.length) (.int .i64 0))).toArray
theorem blkc_size {xs : List Int} (h : xs.length ≤ 16) : (blkc xs).size = 17 := by simp [blkc, ints]; omega
theorem blkc_zero (xs : List Int) : (blkc xs)[0]? = some (.int .i64 xs.length) := by simp [blkc]
theorem blkc_at {xs : List Int} {k : Nat} (h : k < xs.length) : (blkc xs)[1 + k]? = some (.int .i64 (xs.getD k 0)) := by
  have hl : k < (ints xs).length := by rw [ints_len]; exact h
  simp only [blkc, Nat.add_comm 1 k, List.getElem?_toArray, List.getElem?_cons_succ]
  rw [List.getElem?_append_left hl, ints_at h]
set_option maxHeartbeats 800000 in
theorem blockOf_no (v : Value) (xs : List Int) (w : World) (h : Rd w v 1 xs.length (ints xs)) (hm : memOk xs = false) :
    Calls Try.prog 163 #[.agg #[v]] w fun e w' => e = .returned (.tuple #[.agg (blkc []), .bool false]) ∧ Below w.heap.size w w' := by
  obtain ⟨A, c, rfl, -, hnc, hc, hr⟩ := id h
  go_enter Try.func163, Try.ntmps163
  go_wp2_with fail
  refine (impl_MemOk _ xs _ (h.below (((Below.refl _ _).alloc (Nat.le_refl _) _).alloc (by simp) _))).mono ?_
  rintro e w1 ⟨rfl, hb1⟩
  rw [hm]
  have k2 := (Bk.new (w.alloc (.cells #[.slice A xs.length c] 38)) (blkc []) 147).below hb1 (by simp)
  rw [World.size_alloc] at k2
  have hB1 := (((Below.refl w.heap.size w).alloc (Nat.le_refl _) _).alloc (by simp) _).trans (hb1.mono (by simp; omega))
  go_wp2_with (refine wpList_store_row rfl 147 _ _ rfl (w.heap.size + 1) (blkc []) rfl rfl 147 (blkc []) k2 (by kernel_rfl) rfl (by kernel_rfl) ?_)
  exact bodyPost_ret (v := .tuple #[.agg (blkc []), .bool false]) (results_cell_tmp Try.results163 _ (k2.row (blkc [])) rfl Try.underlying147 rfl (by kernel_rfl)) rfl ⟨rfl, below_row hB1 (by omega) _⟩
set_option maxHeartbeats 800000 in
theorem blockOf_yes (v : Value) (xs : List Int) (w : World) (h : Rd w v 1 xs.length (ints xs)) (hm : memOk xs = true) :
    Calls Try.prog 163 #[.agg #[v]] w fun e w' => e = .returned (.tuple #[.agg (blkc xs), .bool true]) ∧ Below w.heap.size w w' := by
  obtain ⟨A, c, rfl, -, hnc, hc, hr⟩ := id h
  unfold maxLen at hc
  have hlen : 1 ≤ (xs.length : Int) ∧ (xs.length : Int) ≤ 16 := inB_true (by simp [memOk] at hm; exact hm.1)
  go_enter Try.func163, Try.ntmps163
  go_wp2_with fail
  refine (impl_MemOk _ xs _ (h.below (((Below.refl _ _).alloc (Nat.le_refl _) _).alloc (by simp) _))).mono ?_
  rintro e w1 ⟨rfl, hb1⟩
  rw [hm]
  clear hm
  have k1 := ((Bk.new w #[.slice A xs.length c] 38).alloc (.cells (blkc []) 147)).below hb1 (by simp; omega)
  have k2 := (Bk.new (w.alloc (.cells #[.slice A xs.length c] 38)) (blkc []) 147).below hb1 (by simp)
  have hB1 := (((Below.refl w.heap.size w).alloc (Nat.le_refl _) _).alloc (by simp) _).trans (hb1.mono (by simp; omega))
  rw [World.size_alloc] at k2
  obtain ⟨hc1, hf1⟩ := k1.at_ 0 rfl
  have hl1 := k1.lt
  have hl2 := k2.lt
  go_wp2_with fail
  have k4 := Bk.new w1 (Value.int .i64 xs.length :: List.replicate 16 (.int .i64 0)).toArray 147
  have HB4 := hB1.alloc hB1.size (.cells (Value.int .i64 xs.length :: List.replicate 16 (.int .i64 0)).toArray 147)
  have HPOS : Hid (∀ W : World, Below w.heap.size w W → 0 < (ints xs).length → ∃ ad, A = some ad ∧ ∀ j v, (ints xs)[j]? = some v → W.cell? (ad.add j) = some v) := by
    intro W hW _
    obtain ⟨A', c', he, -, -, -, hr'⟩ := h.a
    injection he with e1 _ e3
    subst e1
    obtain ⟨ad, rfl, hb, hcell⟩ := hr' (by omega)
    exact ⟨ad, rfl, fun j v hj => (hW.cell (p := ad.add j) (by rw [add_block]; exact hb)).trans (hcell j v hj)⟩
  have hlen' : (ints xs).length = Nat.min xs.length 16 := by rw [ints_len]; exact (Nat.min_eq_left (by omega)).symm
  have hone : ∀ v ∈ ints xs, v.oneCell' = true := by simp [ints, Value.oneCell']
  have HL := Lib.hid hlen'
  have HO := Lib.hid hone
  have H1 := Lib.hid k1
  have H2 := Lib.hid k2
  have H4 := Lib.hid k4
  clear hlen' hone k1 k2 k4 hr
  go_region_law (refine step_copy_splice rfl (.tmp 14) (.tmp 16) 25 25 rfl 3 Try.underlying25 (by kernel_rfl) _ _ 16 16 xs.length c rfl rfl w1.heap.size 1 (Value.int .i64 xs.length :: List.replicate 16 (.int .i64 0)) 147 (by exact H4.out) (ints xs) HL.out (fun hp => ⟨rfl, HPOS.out _ (by exact HB4.drew) hp⟩) (by simp [ints]; omega) HO.out w1.heap.size w1 (by exact ((Below.refl _ _).alloc (Nat.le_refl _) _).drew) (Nat.le_refl _) ?_; intro w4 hg4 hb4)
  have hsp : splice (Value.int .i64 xs.length :: List.replicate 16 (.int .i64 0)) 1 (ints xs) = (blkc xs).toList := by
    simp only [splice, ints_len, Nat.add_comm 1 xs.length, List.drop_succ_cons, List.drop_replicate, List.take_succ_cons, List.take_zero, blkc, List.toList_toArray, List.cons_append, List.nil_append]
  have k4 : Bk w4 w1.heap.size (blkc xs) 147 := by
    have := hg4.out
    rw [hsp, Array.toArray_toList] at this
    exact this
  have k2 := H2.out.below hb4 H2.out.lt
  have HB5 := hB1.trans (hb4.mono hB1.size)
  have hsz := blkc_size (xs := xs) (by omega)
  have hone2 : (blkc xs).all (·.oneCell') = true := by simp [blkc, ints, Value.oneCell']
  clear hsp hg4 hb4 H1 H2 H4 HPOS HL HO HB4 hb1 hB1 hc1 hf1
  go_wp2_with (first
    | (refine wpList_load_row rfl 147 _ rfl w1.heap.size rfl 147 (blkc xs) (0, 0) _ k4 Try.underlying147 rfl (by rw [hsz]; kernel_rfl) ?_)
    | (refine wpList_store_row rfl 147 _ _ rfl (w.heap.size + 1) (blkc xs) rfl rfl 147 (blkc []) k2 (by rw [hsz]; kernel_rfl) (by rw [hsz]; kernel_rfl) hone2 ?_))
  exact bodyPost_ret (results_cell_tmp Try.results163 _ (k2.row (blkc xs)) rfl Try.underlying147 rfl (by rw [hsz]; kernel_rfl)) rfl ⟨rfl, below_row HB5 (by omega) _⟩
end Go.Proofs.Ytiflooopfpcelaa
