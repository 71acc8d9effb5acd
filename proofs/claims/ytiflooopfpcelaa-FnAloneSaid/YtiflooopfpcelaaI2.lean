/- Contracts of chapter 1's functions (package impl), second part: the methods of a block, NewMem, Peek, Poke, SameMem, DiffMem. -/
import Derived.Test.YtiflooopfpcelaaI1
import Derived.Test.YtiflooopfpcelaaArrEq
import Derived.Deep.MidRow
import Derived.WalkSpells
namespace Go.Proofs.Ytiflooopfpcelaa
set_option maxRecDepth 20000
set_option linter.unusedSimpArgs false
set_option linter.unusedVariables false
open Go.ChangeShapes Go.WideShapes Go.ChangeAt Go.RowKit
set_option linter.unusedVariables false
set_option maxHeartbeats 400000 in
theorem block_has (xs : List Int) (a : Int) (w : World) (hl : xs.length ≤ 16) (ha : (Lit.int .i64 a).wf = true) :
    Calls Try.prog 164 #[.agg (blkc xs), .int .i64 a] w fun e w' => e = .returned (.bool (inB a 0 (xs.length - 1))) ∧ Below w.heap.size w w' := by
  have ha' := bounds_i64 ha
  have hb0 := blkc_zero xs
  have HB := (Below.refl w.heap.size w).alloc (Nat.le_refl _) (.cells (blkc xs) 147)
  go_enter Try.func164, Try.ntmps164
  go_wp2_with (go_at_call 89; refine (impl_indexOk _ _ _).mono ?_; rintro e w' ⟨rfl, rfl⟩)
  all_goals go_ret
  all_goals exact ⟨rfl, HB⟩
theorem own_of_blk {w : World} {g : Nat} {xs : List Int} {T : TypeId} (k : Bk w g (blkc xs) T) (hl : xs.length ≤ 16) :
    ∃ bs, Own w (.slice (some ⟨g, 1, none⟩) xs.length 16) 1 xs.length (ints xs) bs ∧ ∀ b ∈ bs, b = g := by
  by_cases h0 : xs.length = 0
  · exact ⟨[], ⟨_, 16, rfl, by simp [ints], hl, by simp [maxLen], .inl ⟨h0, rfl⟩⟩, by simp⟩
  · refine ⟨[g], ⟨_, 16, rfl, by simp [ints], hl, by simp [maxLen], .inr ⟨by omega, g, 1, rfl, rfl, k.lt, fun j u hu => ?_⟩⟩, by simp⟩
    refine k.at_ (1 + j) ?_
    have hj : j < xs.length := by have := (List.getElem?_eq_some_iff.1 hu).1; simpa [ints] using this
    rw [blkc_at hj, ← ints_at hj, hu]
set_option maxHeartbeats 400000 in
theorem block_mem (xs : List Int) (w : World) (hl : xs.length ≤ 16) :
    Calls Try.prog 108 #[.agg (blkc xs)] w (RetMem xs w) := by
  have hb0 := blkc_zero xs
  have k1 := (Bk.new w (blkc xs) 147).alloc (.cells #[.slice none 0 0] 38)
  have k2 := Bk.new (w.alloc (.cells (blkc xs) 147)) #[.slice none 0 0] 38
  have HB := ((Below.refl w.heap.size w).alloc (Nat.le_refl _) (.cells (blkc xs) 147)).alloc (by simp) (.cells #[.slice none 0 0] 38)
  have hl2 : (xs.length : Int) ≤ 16 := by omega
  rw [World.size_alloc] at k2
  go_enter Try.func108, Try.ntmps108
  go_wp2_with fail
  obtain ⟨bs, ho, hbs⟩ := own_of_blk ((Bk.new w (blkc xs) 147).alloc (.cells #[.slice (some ⟨w.heap.size, 1, none⟩) xs.length 16] 38)) hl
  have HB' := ((Below.refl w.heap.size w).alloc (Nat.le_refl _) (.cells (blkc xs) 147)).alloc (by simp) (.cells #[.slice (some ⟨w.heap.size, 1, none⟩) xs.length 16] 38)
  exact bodyPost_ret (v := .agg #[.slice (some ⟨w.heap.size, 1, none⟩) xs.length 16]) (by simp [results, Try.results108, go_sem]) rfl ⟨_, bs, rfl, ho, fun b hb => by rw [hbs b hb]; exact Nat.le_refl _, HB'⟩
theorem eql_aggG {P : Program} {ops : Array Oper} {rest : List Oper} {op : Oper} {a : Act} {w : World} {Q : Exit → Act → World → Prop} (hw : Region.wanted op (yielded ops a.tmps) = true) (t : TypeId) (x y : Operand) (ho : op.op = .binOp .eql t x y t)
    (xs ys : Array Value) (hx : a.eval x = .agg xs) (hy : a.eval y = .agg ys) (hm : P.eqGuardType P.depth t = false) (b : Bool) (hrun : (binOp .eql t (.agg xs) (.agg ys)).run P w = .ok (.bool b) w)
    (h : wpList P ops Q rest (a.put op.dst (.bool b)) w) : wpList P ops Q (op :: rest) a w :=
  wpList_step fun K hK => by
    rw [if_pos hw]
    unfold Oper.wp execOp
    simp only [ho, hx, hy, Sem.run_bind, run_eqGuard_agg w _ t x y xs ys hm, hrun, Result.andThen_ok, Sem.run_pure]
    exact hK _ _ h
theorem load_rowG {P : Program} {ops : Array Oper} {rest : List Oper} {o : Oper} {a : Act} {w : World} {Q : Exit → Act → World → Prop} (hw : Region.wanted o (yielded ops a.tmps) = true) (ty : TypeId) (x : Operand) (ho : o.op = .load ty x)
    (g : Nat) (hx : a.eval x = .pointer (some ⟨g, 0, none⟩)) (t : TypeId) (cs : Array Value) (fr : Nat × Nat) (d : TypeDesc) (hg : w.heap[g]? = some (.cells cs t fr))
    (hu : P.underlying ty = some d) (hd : (match d with | .struct _ | .array _ _ => true | _ => false) = true) (hi : (P.info? ty).map (·.size) = some cs.size)
    (h : wpList P ops Q rest (a.put o.dst (.agg cs)) w) : wpList P ops Q (o :: rest) a w :=
  wpList_step fun K hK => by rw [if_pos hw]; exact wp_load_row ty x ho g hx t cs fr d hg hu hd hi (hK _ _ h)
theorem load_midG {P : Program} {ops : Array Oper} {rest : List Oper} {op : Oper} {a : Act} {w : World} {Q : Exit → Act → World → Prop} (hw : Region.wanted op (yielded ops a.tmps) = true) (ty : TypeId) (x : Operand) (ho : op.op = .load ty x)
    (b o : Nat) (hx : a.eval x = .pointer (some ⟨b, o, none⟩)) (cs : List Value) (d : TypeDesc) (hc : w.rangeAt b o cs)
    (hu : P.underlying ty = some d) (hd : d.isRow = true) (hi : (P.info? ty).map (·.size) = some cs.length)
    (h : wpList P ops Q rest (a.put op.dst (.agg cs.toArray)) w) : wpList P ops Q (op :: rest) a w :=
  wpList_step fun K hK => by rw [if_pos hw]; exact wp_load_mid ty x ho b o hx cs d hc hu hd hi (hK _ _ h)
def pad (xs : List Int) : List Int := xs ++ List.replicate (16 - xs.length) 0
theorem pad_len {xs : List Int} (h : xs.length ≤ 16) : (pad xs).length = 16 := by simp [pad]; omega
theorem pad_at (xs : List Int) (j : Nat) : (blkc xs)[1 + j]? = (ints (pad xs))[j]? := by
  simp [blkc, pad, Nat.add_comm 1 j, ints]
theorem pad_eq {xs ys : List Int} (h : xs.length = ys.length) (hx : xs.length ≤ 16) : decide (pad xs = pad ys) = decide (xs = ys) := by
  rw [Bool.eq_iff_iff, decide_eq_true_iff, decide_eq_true_iff]
  constructor
  · intro e
    exact (List.append_inj e h).1
  · rintro rfl
    rfl
set_option maxHeartbeats 400000 in
theorem clone (v : Value) (xs : List Int) (w : World) (h : Rd w v 1 xs.length (ints xs)) (hsz : xs.length ≤ 16777216) :
    Calls Try.prog 125 #[v] w (RetInts xs w) := by
  obtain ⟨A, c, rfl, -, hnc, hc, hr⟩ := id h
  unfold maxLen at hc
  obtain ⟨i, hi, hiz0, hiz1, hiz2⟩ := info_parts infoInt
  rcases A with _ | ad
  · have h0 : xs = [] := by
      by_cases hp : 0 < xs.length
      · obtain ⟨b, o, he, _⟩ := hr hp
        cases he
      · exact List.eq_nil_of_length_eq_zero (by omega)
    subst h0
    have e0 := fun w => Lib.run_eql_slice_nil (P := Try.prog) w 25 3 none 0 c 0 0 Try.underlying25
    go_enter Try.func125, Try.ntmps125
    go_wp2_with fail
    go_ret
    exact ⟨_, [], rfl, Own.nil _ _, by simp, Below.refl _ _⟩
  · have HC : Hid (∀ W : World, Below w.heap.size w W → ∀ j u, (ints xs)[j]? = some u → W.cell? (ad.add j) = some u) := by
      intro W hW j u hu
      have hj : j < xs.length := by have := (List.getElem?_eq_some_iff.1 hu).1; simpa [ints] using this
      obtain ⟨A', c', he, -, -, -, hr'⟩ := h.a
      injection he with e1
      subst e1
      obtain ⟨ad', he', hb, hcell⟩ := hr' (by omega)
      injection he' with e2
      subst e2
      exact (hW.cell (p := ad.add j) (by rw [add_block]; exact hb)).trans (hcell j u hu)
    have hO := World.ownsRow_lit (base := w.heap.size) (e := 3) (size := 1) w #[] 0 (Nat.le_refl _) (by simp [maxLen]) rfl
    have hB := (Below.refl w.heap.size w).alloc (Nat.le_refl _) (.cells #[] 3)
    have hone : ∀ u ∈ ints xs, u.oneCell' = true := by simp [ints, Value.oneCell']
    have HO := Lib.hid hone
    clear hr hone
    have e0 := fun w => Lib.run_eql_slice_nil (P := Try.prog) w 25 3 (some ad) xs.length c 0 0 Try.underlying25
    go_enter Try.func125, Try.ntmps125
    go_wp2_with (at_builtin; refine wpList_append_own _ rfl _ _ 25 rfl w.heap.size 3 i (.int .i64 0) 1 8 Try.underlying25 hi hiz0 hiz1 hiz2 rfl (by decide) _ _ _ rfl hO ad xs.length c (ints xs) rfl (by simp [ints]) (HC.out _ hB) HO.out (by unfold maxLen; omega) (by omega) (by simp) ?_)
    intro v' w1 hown' hgrow _
    have hB' := hB.grown hgrow (by simp) (fun k hk => (hO.lt k hk).1)
    go_wp2_with fail
    go_ret
    obtain ⟨bs, h1, h2⟩ := Own.of_owns hown'
    exact ⟨_, bs, rfl, h1, h2, hB'⟩
set_option maxHeartbeats 400000 in
theorem copyMem (v : Value) (xs : List Int) (w : World) (h : Rd w v 1 xs.length (ints xs)) (hsz : xs.length ≤ 16777216) :
    Calls Try.prog 127 #[.agg #[v]] w (RetMem xs w) := by
  obtain ⟨A, c, rfl, -, hnc, hc, -⟩ := id h
  have hB := ((Below.refl w.heap.size w).alloc (Nat.le_refl _) (.cells #[.slice A xs.length c] 38)).alloc (by simp) (.cells #[.slice none 0 0] 38)
  go_enter Try.func127, Try.ntmps127
  go_wp2_with fail
  refine (clone _ xs _ (h.below hB) hsz).mono ?_
  rintro e w1 ⟨v1, bs1, rfl, ho1, hbs1, hb1⟩
  obtain ⟨A1, c1, rfl, hcc1, hcm1⟩ := ho1.slice
  have k2 := (Bk.new (w.alloc (.cells #[.slice A xs.length c] 38)) #[.slice none 0 0] 38).below hb1 (by simp)
  have hB1 := hB.trans (hb1.mono (by simp; omega))
  rw [World.size_alloc] at k2
  simp only [World.size_alloc] at hbs1
  obtain ⟨hc2, hf2⟩ := k2.at_ 0 rfl
  go_wp2_with fail
  exact bodyPost_ret (v := .agg #[.slice A1 xs.length c1]) (by simp [results, Try.results127, go_sem, hc2]) rfl ⟨_, bs1, rfl, ho1.far fun k hk => by have := hbs1 k hk; omega, fun b hb => by have := hbs1 b hb; omega, hB1.setCell (Nat.le_succ _) _⟩
set_option maxHeartbeats 400000 in
theorem impl_NewMem (n : Int) (w : World) (hn : (Lit.int .i64 n).wf = true) :
    Calls Try.prog 65 #[.int .i64 n] w (RetMemB (newF n) (inB n 1 16) w) := by
  have hn' := bounds_i64 hn
  cases hin : inB n 1 16
  · have hL : newF n = [] := by simp [newF, hin]
    rcases inB_false hin with h1 | h1
    · have HL := Lib.hid hL
      clear hL hin
      go_enter Try.func65, Try.ntmps65
      go_wp2_with fail
      exact bodyPost_ret (v := .tuple #[.agg #[.slice none 0 0], .bool false]) (by simp [results, Try.results65, go_sem]) rfl ⟨_, [], rfl, by rw [HL.out]; exact Own.nil _ _, by simp, (Below.refl _ _).alloc (Nat.le_refl _) _⟩
    · have HL := Lib.hid hL
      have h2 : ¬ n < 1 := by omega
      clear hL hin
      go_enter Try.func65, Try.ntmps65
      go_wp2_with fail
      exact bodyPost_ret (v := .tuple #[.agg #[.slice none 0 0], .bool false]) (by simp [results, Try.results65, go_sem]) rfl ⟨_, [], rfl, by rw [HL.out]; exact Own.nil _ _, by simp, (Below.refl _ _).alloc (Nat.le_refl _) _⟩
  · obtain ⟨h1, h2⟩ := inB_true hin
    obtain ⟨k, rfl⟩ := Int.eq_ofNat_of_zero_le (show 0 ≤ n by omega)
    have hL : newF (k : Int) = List.replicate k 0 := by simp [newF, hin]
    have hb : (#[.int .i64 (k : Int), .int .i64 0, .int .i64 0, .int .i64 0, .int .i64 0, .int .i64 0, .int .i64 0, .int .i64 0, .int .i64 0, .int .i64 0, .int .i64 0, .int .i64 0, .int .i64 0, .int .i64 0, .int .i64 0, .int .i64 0, .int .i64 0] : Array Value) = blkc (List.replicate k 0) := by
      simp only [blkc, ints, List.map_replicate, List.length_replicate, List.replicate_append_replicate, show k + (16 - k) = 16 from by omega]
      rfl
    have HL := Lib.hid hL
    have HB := Lib.hid hb
    clear hL hin hb
    go_enter Try.func65, Try.ntmps65
    go_wp2_with fail
    rw [HB.out]
    refine (block_mem (List.replicate k 0) _ (by simp; omega)).mono ?_
    rintro e w1 ⟨v1, bs1, rfl, ho1, hbs1, hb1⟩
    obtain ⟨A1, c1, rfl, hcc1, hcm1⟩ := ho1.slice
    have k2 := (Bk.new w #[.slice none 0 0] 38).below hb1 (by simp)
    have hB1 := ((Below.refl w.heap.size w).alloc (Nat.le_refl _) (.cells #[.slice none 0 0] 38)).trans (hb1.mono (by simp))
    simp only [World.size_alloc] at hbs1
    obtain ⟨hc2, hf2⟩ := k2.at_ 0 rfl
    go_wp2_with fail
    exact bodyPost_ret (v := .tuple #[.agg #[.slice A1 (List.replicate k (0 : Int)).length c1], .bool true]) (by simp [results, Try.results65, go_sem, hc2]) rfl ⟨_, bs1, rfl, by rw [HL.out]; exact ho1.far fun k hk => by have := hbs1 k hk; omega, fun b hb => by have := hbs1 b hb; omega, hB1.setCell (Nat.le_refl _) _⟩
end Go.Proofs.Ytiflooopfpcelaa
