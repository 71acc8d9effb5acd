/- Contracts of chapter 1's functions (package impl), third part: Peek, Poke, SameMem, DiffMem. -/
import Derived.Test.YtiflooopfpcelabI2
namespace Go.Proofs.Ytiflooopfpcelab
set_option maxRecDepth 20000
set_option linter.unusedSimpArgs false
set_option linter.unusedVariables false
open Go.ChangeShapes Go.WideShapes Go.ChangeAt Go.RowKit
set_option linter.unusedVariables false
theorem alloc_setRow (w : World) (cs ds : Array Value) (t : TypeId) : (w.alloc (.cells cs t)).setRow w.heap.size ds = w.alloc (.cells ds t) := by
  have e : ∀ (f : Obj → Obj) (h : Array Obj) (o : Obj), (h.push o).modify h.size f = h.push (f o) := by
    intro f h o
    apply Array.ext
    · simp
    · intro i h1 h2
      rw [Array.getElem_modify]
      by_cases hi : i = h.size
      · subst hi; simp
      · have : i < h.size := by simp at h1; omega
        rw [if_neg (by omega), Array.getElem_push_lt this, Array.getElem_push_lt this]
  unfold World.setRow World.alloc
  simp only
  rw [e]
/-- a whole row stored into a block that was just made -/
theorem store_new {P : Program} {ops : Array Oper} {rest : List Oper} {o : Oper} {a : Act} {Q : Exit → Act → World → Prop} (hgd : o.guard = none) (ty : TypeId) (x y : Operand) (ho : o.op = .store ty x y)
    (w : World) (old ds : Array Value) (t : TypeId) (hx : a.eval x = .pointer (some ⟨w.heap.size, 0, none⟩)) (hy : a.eval y = .agg ds) (hi : (P.info? ty).map (·.size) = some ds.size)
    (hold : old.size = ds.size) (h1 : ds.all (·.oneCell') = true) (h : wpList P ops Q rest (a.put o.dst undef) (w.alloc (.cells ds t))) : wpList P ops Q (o :: rest) a (w.alloc (.cells old t)) :=
  wpList_store_row hgd ty x y ho w.heap.size ds hx hy t old (heap_alloc_new w _) hi hold h1 (by rw [alloc_setRow]; exact h)
theorem blkc_one (xs : List Int) : (blkc xs).all (·.oneCell') = true := by simp [blkc, ints, Value.oneCell']
theorem memOk_len {xs : List Int} (h : memOk xs = true) : 1 ≤ xs.length ∧ xs.length ≤ 16 := by
  have := inB_true (show inB xs.length 1 16 = true by simp [memOk] at h; exact h.1)
  omega
set_option maxHeartbeats 800000 in
theorem impl_Peek (v : Value) (xs : List Int) (a : Int) (w : World) (h : Rd w v 1 xs.length (ints xs)) (ha : (Lit.int .i64 a).wf = true) :
    Calls Try.prog 19 #[.agg #[v], .int .i64 a] w fun e w' => e = .returned (.int .i64 (peekF xs a)) ∧ Below w.heap.size w w' := by
  have ha' := bounds_i64 ha
  obtain ⟨A, c, rfl, -, -, -, -⟩ := id h
  have hB := (Below.refl w.heap.size w).alloc (Nat.le_refl _) (.cells #[.slice A xs.length c] 26)
  cases hm : memOk xs
  · have hs : peekF xs a = 0 := by simp [peekF, hm]
    have HS := Lib.hid hs
    have HM := Lib.hid hm
    clear hs hm
    go_enter Try.func19, Try.ntmps19
    go_wp2_with fail
    refine (blockOf_no _ xs _ (h.below hB) HM.out).mono ?_
    rintro e w1 ⟨rfl, hb1⟩
    have hB1 := hB.trans (hb1.mono (by simp))
    go_wp2_with (refine store_new rfl 88 _ _ rfl w1 _ (blkc []) 88 rfl rfl (by kernel_rfl) rfl (by kernel_rfl) ?_)
    go_ret
    exact ⟨ret_int HS.out.symm, hB1.alloc hB1.size _⟩
  · have hlen := memOk_len hm
    have HM := Lib.hid hm
    have hsz := blkc_size (xs := xs) hlen.2
    have HZ := Lib.hid hsz
    clear hm hsz
    cases hin : inB a 0 (xs.length - 1)
    · have hs : peekF xs a = 0 := by simp [peekF, hin]
      have HS := Lib.hid hs
      have HI := Lib.hid hin
      clear hs hin
      go_enter Try.func19, Try.ntmps19
      go_wp2_with fail
      refine (blockOf_yes _ xs _ (h.below hB) HM.out).mono ?_
      rintro e w1 ⟨rfl, hb1⟩
      have hB1 := hB.trans (hb1.mono (by simp))
      have hB2 := hB1.alloc hB1.size (.cells (blkc xs) 88)
      have k1 := Bk.new w1 (blkc xs) 88
      go_wp2_with (first
        | (refine store_new rfl 88 _ _ rfl w1 _ (blkc xs) 88 rfl rfl (by rw [HZ.out]; kernel_rfl) (by rw [HZ.out]; kernel_rfl) (blkc_one xs) ?_)
        | (refine load_rowG rfl 88 _ rfl w1.heap.size rfl 88 (blkc xs) (0, 0) _ k1 Try.underlying88 rfl (by rw [HZ.out]; kernel_rfl) ?_))
      refine (block_has xs a _ hlen.2 ha).mono ?_
      rintro e w2 ⟨rfl, hb2⟩
      rw [HI.out]
      have hB3 := hB2.trans (hb2.mono hB2.size)
      go_wp2_with fail
      go_ret
      exact ⟨ret_int HS.out.symm, hB3⟩
    · obtain ⟨h1, h2⟩ := inB_true hin
      obtain ⟨k, rfl⟩ := Int.eq_ofNat_of_zero_le h1
      have hs : peekF xs k = xs.getD k 0 := by simp [peekF, hin, HM.out]
      have HS := Lib.hid hs
      have HI := Lib.hid hin
      have hk16 : (k : Int) < 16 := by omega
      clear hs hin
      go_enter Try.func19, Try.ntmps19
      go_wp2_with fail
      refine (blockOf_yes _ xs _ (h.below hB) HM.out).mono ?_
      rintro e w1 ⟨rfl, hb1⟩
      have hB1 := hB.trans (hb1.mono (by simp))
      have hB2 := hB1.alloc hB1.size (.cells (blkc xs) 88)
      have k1 := Bk.new w1 (blkc xs) 88
      go_wp2_with (first
        | (refine store_new rfl 88 _ _ rfl w1 _ (blkc xs) 88 rfl rfl (by rw [HZ.out]; kernel_rfl) (by rw [HZ.out]; kernel_rfl) (blkc_one xs) ?_)
        | (refine load_rowG rfl 88 _ rfl w1.heap.size rfl 88 (blkc xs) (0, 0) _ k1 Try.underlying88 rfl (by rw [HZ.out]; kernel_rfl) ?_))
      refine (block_has xs k _ hlen.2 ha).mono ?_
      rintro e w2 ⟨rfl, hb2⟩
      rw [HI.out]
      have hB3 := hB2.trans (hb2.mono hB2.size)
      obtain ⟨hc, hf⟩ := (k1.below hb2 k1.lt).at_ (1 + k) (blkc_at (show k < xs.length by omega))
      go_wp2_with fail
      go_ret
      exact ⟨ret_int (by rw [HS.out]; simp), hB3⟩
def valF (xs : List Int) : List Int := if memOk xs then xs else []
theorem valF_len (xs : List Int) : (valF xs).length ≤ 16 := by
  unfold valF
  split
  · rename_i h; exact (memOk_len h).2
  · simp
theorem blockOf (v : Value) (xs : List Int) (w : World) (h : Rd w v 1 xs.length (ints xs)) :
    Calls Try.prog 63 #[.agg #[v]] w fun e w' => e = .returned (.tuple #[.agg (blkc (valF xs)), .bool (memOk xs)]) ∧ Below w.heap.size w w' := by
  cases hm : memOk xs
  · have : valF xs = [] := by simp [valF, hm]
    rw [this]
    exact blockOf_no v xs w h hm
  · have : valF xs = xs := by simp [valF, hm]
    rw [this]
    exact blockOf_yes v xs w h hm
set_option maxHeartbeats 1600000 in
theorem impl_SameMem (v u : Value) (xs ys : List Int) (w : World) (h : Rd w v 1 xs.length (ints xs)) (h' : Rd w u 1 ys.length (ints ys)) :
    Calls Try.prog 21 #[.agg #[v], .agg #[u]] w fun e w' => e = .returned (.bool (sameF xs ys)) ∧ Below w.heap.size w w' := by
  obtain ⟨A, c, rfl, -, -, -, -⟩ := id h
  obtain ⟨A', c', rfl, -, -, -, -⟩ := id h'
  have hB := ((Below.refl w.heap.size w).alloc (Nat.le_refl _) (.cells #[.slice A xs.length c] 26)).alloc (by simp) (.cells #[.slice A' ys.length c'] 26)
  have ZX := Lib.hid (blkc_size (valF_len xs))
  have ZY := Lib.hid (blkc_size (valF_len ys))
  go_enter Try.func21, Try.ntmps21
  go_wp2_with fail
  refine (blockOf _ xs _ (h.below hB)).mono ?_
  rintro e w1 ⟨rfl, hb1⟩
  have hB1 := hB.trans (hb1.mono (by simp; omega))
  have k2 := (Bk.new (w.alloc (.cells #[.slice A xs.length c] 26)) #[.slice A' ys.length c'] 26).below hb1 (by simp)
  rw [World.size_alloc] at k2
  obtain ⟨hc2, hf2⟩ := k2.at_ 0 rfl
  have hl2 := k2.lt
  go_wp2_with (refine store_new rfl 88 _ _ rfl w1 _ (blkc (valF xs)) 88 rfl rfl (by rw [ZX.out]; kernel_rfl) (by rw [ZX.out]; kernel_rfl) (blkc_one _) ?_)
  have hB1' := hB1.alloc hB1.size (.cells (blkc (valF xs)) 88)
  refine (blockOf _ ys _ (h'.below hB1')).mono ?_
  rintro e w2 ⟨rfl, hb2⟩
  have hB2 := hB1'.trans (hb2.mono hB1'.size)
  have k3 := (Bk.new w1 (blkc (valF xs)) 88).below hb2 (by simp)
  have hl3 := k3.lt
  have hB2' := hB2.alloc hB2.size (.cells (blkc (valF ys)) 88)
  have k3 := k3.alloc (.cells (blkc (valF ys)) 88)
  have k4 := Bk.new w2 (blkc (valF ys)) 88
  cases hm : memOk xs
  · have hs : sameF xs ys = false := by simp [sameF, hm]
    have HS := Lib.hid hs
    clear hs hm
    go_wp2_with (refine store_new rfl 88 _ _ rfl w2 _ (blkc (valF ys)) 88 rfl rfl (by rw [ZY.out]; kernel_rfl) (by rw [ZY.out]; kernel_rfl) (blkc_one _) ?_)
    all_goals (go_ret; exact ⟨ret_bool HS.out.symm, hB2'⟩)
  · cases hm' : memOk ys
    · have hs : sameF xs ys = false := by simp [sameF, hm']
      have HS := Lib.hid hs
      clear hs hm hm'
      go_wp2_with (refine store_new rfl 88 _ _ rfl w2 _ (blkc (valF ys)) 88 rfl rfl (by rw [ZY.out]; kernel_rfl) (by rw [ZY.out]; kernel_rfl) (blkc_one _) ?_)
      go_ret
      exact ⟨ret_bool HS.out.symm, hB2'⟩
    · have hs : sameF xs ys = decide (valF xs = valF ys) := by simp [sameF, hm, hm', valF]
      have HS := Lib.hid hs
      clear hs hm hm'
      go_wp2_with (first
        | (refine store_new rfl 88 _ _ rfl w2 _ (blkc (valF ys)) 88 rfl rfl (by rw [ZY.out]; kernel_rfl) (by rw [ZY.out]; kernel_rfl) (blkc_one _) ?_)
        | (refine load_rowG rfl 88 _ rfl w1.heap.size rfl 88 (blkc (valF xs)) (0, 0) _ k3 Try.underlying88 rfl (by rw [ZX.out]; kernel_rfl) ?_)
        | (refine load_rowG rfl 88 _ rfl w2.heap.size rfl 88 (blkc (valF ys)) (0, 0) _ k4 Try.underlying88 rfl (by rw [ZY.out]; kernel_rfl) ?_))
      refine (block_same _ _ _ (valF_len xs) (valF_len ys)).mono ?_
      rintro e w3 ⟨rfl, hb3⟩
      rw [← HS.out]
      go_wp2_with fail
      go_ret
      exact ⟨rfl, hB2'.trans (hb3.mono hB2'.size)⟩
theorem blkc_set {xs : List Int} {k : Nat} {x : Int} (h : k < xs.length) : (blkc xs).setIfInBounds (1 + k) (.int .i64 x) = blkc (xs.set k x) := by
  have hl : k < (ints xs).length := by rw [ints_len]; exact h
  simp only [blkc, List.setIfInBounds_toArray, Nat.add_comm 1 k, List.set_cons_succ, List.length_set, List.set_append, if_pos hl, ints_set]
set_option maxHeartbeats 1600000 in
theorem impl_Poke (v : Value) (xs : List Int) (a x : Int) (w : World) (h : Rd w v 1 xs.length (ints xs)) (hsz : xs.length ≤ 16777216) (ha : (Lit.int .i64 a).wf = true) :
    Calls Try.prog 18 #[.agg #[v], .int .i64 a, .int .i64 x] w (RetMemB (pokeF xs a x) (pokeOk xs a x) w) := by
  have ha' := bounds_i64 ha
  obtain ⟨A, c, rfl, -, hnc, hc, -⟩ := id h
  unfold maxLen at hc
  have hB := ((Below.refl w.heap.size w).alloc (Nat.le_refl _) (.cells #[.slice A xs.length c] 26)).alloc (by simp) (.cells #[.slice none 0 0] 26)
  have ZX := Lib.hid (blkc_size (valF_len xs))
  go_enter Try.func18, Try.ntmps18
  go_wp2_with fail
  refine (blockOf _ xs _ (h.below hB)).mono ?_
  rintro e w1 ⟨rfl, hb1⟩
  have hB1 := hB.trans (hb1.mono (by simp; omega))
  have hB2 := hB1.alloc hB1.size (.cells (blkc (valF xs)) 88)
  have k1 := (((Bk.new w #[.slice A xs.length c] 26).alloc (.cells #[.slice none 0 0] 26)).below hb1 (by simp; omega)).alloc (.cells (blkc (valF xs)) 88)
  have k2 := ((Bk.new (w.alloc (.cells #[.slice A xs.length c] 26)) #[.slice none 0 0] 26).below hb1 (by simp)).alloc (.cells (blkc (valF xs)) 88)
  rw [World.size_alloc] at k2
  have k3 := Bk.new w1 (blkc (valF xs)) 88
  have hz1 := hb1.size
  simp only [World.size_alloc] at hz1
  have fin1 : ∀ w2 : World, Below w.heap.size w w2 → Bk w2 w.heap.size #[.slice A xs.length c] 26 → Bk w2 (w.heap.size + 1) #[.slice none 0 0] 26 → pokeOk xs a x = false →
      Calls Try.prog 66 #[.agg #[.slice A xs.length c]] w2 fun e w3 => ∃ A1 c1, e = .returned (.agg #[.slice A1 xs.length c1]) ∧ Bk w3 (w.heap.size + 1) #[.slice none 0 0] 26 ∧
        RetMemB (pokeF xs a x) (pokeOk xs a x) w (.returned (.tuple #[.agg #[.slice A1 xs.length c1], .bool false])) (w3.setCell ⟨w.heap.size + 1, 0, none⟩ (.slice A1 xs.length c1)) := by
    intro w2 hb k1 k2 hp
    refine (copyMem _ xs _ (h.below hb) hsz).mono ?_
    rintro e w3 ⟨v1, bs1, rfl, ho1, hbs1, hb3⟩
    obtain ⟨A1, c1, rfl, hcc1, hcm1⟩ := ho1.slice
    refine ⟨A1, c1, rfl, k2.below hb3 k2.lt, _, bs1, by rw [hp], ?_, fun b hb' => Nat.le_trans hb.size (hbs1 b hb'), (hb.trans (hb3.mono hb.size)).setCell (Nat.le_succ _) _⟩
    simp only [pokeF, hp]
    exact ho1.far fun k hk => by have := hbs1 k hk; have := k2.lt; omega
  have HF := Lib.hid fin1
  clear fin1
  cases hm : memOk xs
  · have hp : pokeOk xs a x = false := by simp [pokeOk, hm]
    have HP := Lib.hid hp
    clear hm hp
    obtain ⟨hc1, hf1⟩ := k1.at_ 0 (x := .slice A xs.length c) rfl
    go_wp2_with (refine store_new rfl 88 _ _ rfl w1 _ (blkc (valF xs)) 88 rfl rfl (by rw [ZX.out]; kernel_rfl) (by rw [ZX.out]; kernel_rfl) (blkc_one _) ?_)
    have K1 := Lib.hid k1
    have K2 := Lib.hid k2
    have HB := hB2
    refine (HF.out _ HB K1.out K2.out HP.out).mono ?_
    rintro e w3 ⟨A1, c1, rfl, k4, hret⟩
    have HR := Lib.hid hret
    clear hret
    obtain ⟨hc2, hf2⟩ := k4.at_ 0 (x := .slice none 0 0) rfl
    go_wp2_with fail
    exact bodyPost_ret (v := .tuple #[.agg #[.slice A1 xs.length c1], .bool false]) (by simp [results, Try.results18, go_sem, hc2]) rfl HR.out
  · have hlen := memOk_len hm
    have hval : valF xs = xs := by simp [valF, hm]
    rw [hval] at ZX hB2 k1 k2 k3 ⊢
    have HM := Lib.hid hm
    clear hm hval
    obtain ⟨hc1, hf1⟩ := k1.at_ 0 (x := .slice A xs.length c) rfl
    cases hin : inB a 0 (xs.length - 1)
    · have hp : pokeOk xs a x = false := by simp [pokeOk, hin]
      have HP := Lib.hid hp
      have HI := Lib.hid hin
      clear hin hp
      go_wp2_with (first | (refine store_new rfl 88 _ _ rfl w1 _ (blkc xs) 88 rfl rfl (by rw [ZX.out]; kernel_rfl) (by rw [ZX.out]; kernel_rfl) (blkc_one _) ?_) | (refine load_rowG rfl 88 _ rfl w1.heap.size rfl 88 (blkc xs) (0, 0) _ k3 Try.underlying88 rfl (by rw [ZX.out]; kernel_rfl) ?_))
      refine (block_has xs a _ hlen.2 ha).mono ?_
      rintro e w2 ⟨rfl, hb2⟩
      rw [HI.out]
      have HB := hB2.trans (hb2.mono hB2.size)
      have k1 := k1.below hb2 k1.lt
      have k2 := k2.below hb2 k2.lt
      have k3 := k3.below hb2 k3.lt
      have K1 := Lib.hid k1
      have K2 := Lib.hid k2
      obtain ⟨hc3, hf3⟩ := k1.at_ 0 (x := .slice A xs.length c) rfl
      go_wp2_with fail
      refine (HF.out _ HB K1.out K2.out HP.out).mono ?_
      rintro e w3 ⟨A1, c1, rfl, k4, hret⟩
      have HR := Lib.hid hret
      clear hret
      obtain ⟨hc2, hf2⟩ := k4.at_ 0 (x := .slice none 0 0) rfl
      go_wp2_with fail
      exact bodyPost_ret (v := .tuple #[.agg #[.slice A1 xs.length c1], .bool false]) (by simp [results, Try.results18, go_sem, hc2]) rfl HR.out
    · have HI := Lib.hid hin
      cases hv : valB x
      · have hp : pokeOk xs a x = false := by simp [pokeOk, hv]
        have HP := Lib.hid hp
        have HV := Lib.hid hv
        clear hin hp hv
        go_wp2_with (first | (refine store_new rfl 88 _ _ rfl w1 _ (blkc xs) 88 rfl rfl (by rw [ZX.out]; kernel_rfl) (by rw [ZX.out]; kernel_rfl) (blkc_one _) ?_) | (refine load_rowG rfl 88 _ rfl w1.heap.size rfl 88 (blkc xs) (0, 0) _ k3 Try.underlying88 rfl (by rw [ZX.out]; kernel_rfl) ?_))
        refine (block_has xs a _ hlen.2 ha).mono ?_
        rintro e w2 ⟨rfl, hb2⟩
        rw [HI.out]
        have HB := hB2.trans (hb2.mono hB2.size)
        have k1 := k1.below hb2 k1.lt
        have k2 := k2.below hb2 k2.lt
        have k3 := k3.below hb2 k3.lt
        have K1 := Lib.hid k1
        have K2 := Lib.hid k2
        obtain ⟨hc3, hf3⟩ := k1.at_ 0 (x := .slice A xs.length c) rfl
        go_wp2_with fail
        refine (impl_valueOk _ _).mono ?_
        rintro e w' ⟨rfl, rfl⟩
        rw [HV.out]
        go_wp2_with fail
        refine (HF.out _ HB K1.out K2.out HP.out).mono ?_
        rintro e w3 ⟨A1, c1, rfl, k4, hret⟩
        have HR := Lib.hid hret
        clear hret
        obtain ⟨hc2, hf2⟩ := k4.at_ 0 (x := .slice none 0 0) rfl
        go_wp2_with fail
        exact bodyPost_ret (v := .tuple #[.agg #[.slice A1 xs.length c1], .bool false]) (by simp [results, Try.results18, go_sem, hc2]) rfl HR.out
      · have hp : pokeOk xs a x = true := by simp [pokeOk, hv, hin, HM.out]
        have HP := Lib.hid hp
        have HV := Lib.hid hv
        obtain ⟨h1, h2⟩ := inB_true hin
        obtain ⟨k, rfl⟩ := Int.eq_ofNat_of_zero_le h1
        have hk16 : (k : Int) < 16 := by omega
        clear hin hp hv
        go_wp2_with (first | (refine store_new rfl 88 _ _ rfl w1 _ (blkc xs) 88 rfl rfl (by rw [ZX.out]; kernel_rfl) (by rw [ZX.out]; kernel_rfl) (blkc_one _) ?_) | (refine load_rowG rfl 88 _ rfl w1.heap.size rfl 88 (blkc xs) (0, 0) _ k3 Try.underlying88 rfl (by rw [ZX.out]; kernel_rfl) ?_))
        refine (block_has xs k _ hlen.2 ha).mono ?_
        rintro e w2 ⟨rfl, hb2⟩
        rw [HI.out]
        have HB := hB2.trans (hb2.mono hB2.size)
        have k1 := k1.below hb2 k1.lt
        have k2 := k2.below hb2 k2.lt
        have k3 := k3.below hb2 k3.lt
        have K1 := Lib.hid k1
        have K2 := Lib.hid k2
        obtain ⟨hc3, hf3⟩ := k3.at_ (1 + k) (blkc_at (show k < xs.length by omega))
        have k4 := k3.set_ (1 + k) (.int .i64 x)
        rw [blkc_set (show k < xs.length by omega)] at k4
        have k5 := k2.far (p := ⟨w1.heap.size, 1 + k, none⟩) (by simp; omega) (.int .i64 x)
        have ZY := Lib.hid (blkc_size (xs := xs.set k x) (by rw [List.length_set]; exact hlen.2))
        have HB2 := HB.setCell (p := ⟨w1.heap.size, 1 + k, none⟩) (by show w.heap.size ≤ w1.heap.size; omega) (.int .i64 x)
        go_wp2_with fail
        refine (impl_valueOk _ _).mono ?_
        rintro e w' ⟨rfl, rfl⟩
        rw [HV.out]
        go_wp2_with (refine load_rowG rfl 88 _ rfl w1.heap.size rfl 88 (blkc (xs.set k x)) (0, 0) _ k4 Try.underlying88 rfl (by rw [ZY.out]; kernel_rfl) ?_)
        refine (block_mem (xs.set k x) _ (by rw [List.length_set]; exact hlen.2)).mono ?_
        rintro e w3 ⟨v1, bs1, rfl, ho1, hbs1, hb3⟩
        obtain ⟨A1, c1, rfl, hcc1, hcm1⟩ := ho1.slice
        have k6 := k5.below hb3 k5.lt
        obtain ⟨hc6, hf6⟩ := k6.at_ 0 (x := .slice none 0 0) rfl
        have hl5 := k5.lt
        go_wp2_with fail
        refine bodyPost_ret (v := .tuple #[.agg #[.slice A1 (xs.set k x).length c1], .bool true]) (by simp [results, Try.results18, go_sem, hc6]) rfl ⟨_, bs1, by rw [HP.out], ?_, fun b hb => Nat.le_trans HB2.size (hbs1 b hb), (HB2.trans (hb3.mono HB2.size)).setCell (Nat.le_succ _) _⟩
        simp only [pokeF, HP.out, if_true, Int.toNat_natCast]
        exact ho1.far fun g hg => by have := hbs1 g hg; omega
set_option maxHeartbeats 1600000 in
theorem impl_DiffMem (v u : Value) (xs ys : List Int) (w : World) (h : Rd w v 1 xs.length (ints xs)) (h' : Rd w u 1 ys.length (ints ys)) :
    Calls Try.prog 20 #[.agg #[v], .agg #[u]] w (RetInts (diffF xs ys) w) := by
  obtain ⟨i, hi, hiz0, hiz1, hiz2⟩ := info_parts infoInt
  obtain ⟨A, c, rfl, -, -, -, -⟩ := id h
  obtain ⟨A', c', rfl, -, -, -, -⟩ := id h'
  have hB := ((Below.refl w.heap.size w).alloc (Nat.le_refl _) (.cells #[.slice A xs.length c] 26)).alloc (by simp) (.cells #[.slice A' ys.length c'] 26)
  have ZX := Lib.hid (blkc_size (valF_len xs))
  have ZY := Lib.hid (blkc_size (valF_len ys))
  go_enter Try.func20, Try.ntmps20
  go_wp2_with fail
  refine (blockOf _ xs _ (h.below hB)).mono ?_
  rintro e w1 ⟨rfl, hb1⟩
  have hB1 := hB.trans (hb1.mono (by simp; omega))
  have k2 := (Bk.new (w.alloc (.cells #[.slice A xs.length c] 26)) #[.slice A' ys.length c'] 26).below hb1 (by simp)
  rw [World.size_alloc] at k2
  obtain ⟨hc2, hf2⟩ := k2.at_ 0 rfl
  have hl2 := k2.lt
  go_wp2_with (refine store_new rfl 88 _ _ rfl w1 _ (blkc (valF xs)) 88 rfl rfl (by rw [ZX.out]; kernel_rfl) (by rw [ZX.out]; kernel_rfl) (blkc_one _) ?_)
  have hB1' := hB1.alloc hB1.size (.cells (blkc (valF xs)) 88)
  refine (blockOf _ ys _ (h'.below hB1')).mono ?_
  rintro e w2 ⟨rfl, hb2⟩
  have hB2 := hB1'.trans (hb2.mono hB1'.size)
  have k3 := (Bk.new w1 (blkc (valF xs)) 88).below hb2 (by simp)
  have hl3 := k3.lt
  have hB2' := hB2.alloc hB2.size (.cells (blkc (valF ys)) 88)
  have k3o := k3
  have k3 := k3.alloc (.cells (blkc (valF ys)) 88)
  have k4 := Bk.new w2 (blkc (valF ys)) 88
  have hl4 : w1.heap.size < w2.heap.size := hl3
  have hf : diffF xs ys = if memOk xs && memOk ys && decide (xs.length = ys.length) then diffAt xs ys xs.length else [] := rfl
  have HFn := Lib.hid hf
  clear hf
  have hbx := blkc_zero (valF xs)
  have hby := blkc_zero (valF ys)
  cases hm : memOk xs
  · have hs : diffF xs ys = [] := by rw [HFn.out]; simp [hm]
    have HS := Lib.hid hs
    clear hs hm
    go_wp2_with (refine store_new rfl 88 _ _ rfl w2 _ (blkc (valF ys)) 88 rfl rfl (by rw [ZY.out]; kernel_rfl) (by rw [ZY.out]; kernel_rfl) (blkc_one _) ?_)
    all_goals (go_ret; exact ⟨_, [], rfl, by rw [HS.out]; exact Own.nil _ _, by simp, hB2'⟩)
  · cases hm' : memOk ys
    · have hs : diffF xs ys = [] := by rw [HFn.out]; simp [hm']
      have HS := Lib.hid hs
      clear hs hm hm'
      go_wp2_with (refine store_new rfl 88 _ _ rfl w2 _ (blkc (valF ys)) 88 rfl rfl (by rw [ZY.out]; kernel_rfl) (by rw [ZY.out]; kernel_rfl) (blkc_one _) ?_)
      go_ret
      exact ⟨_, [], rfl, by rw [HS.out]; exact Own.nil _ _, by simp, hB2'⟩
    · have hvx : valF xs = xs := by simp [valF, hm]
      have hvy : valF ys = ys := by simp [valF, hm']
      rw [show (valF xs).length = xs.length from by rw [hvx]] at hbx
      rw [show (valF ys).length = ys.length from by rw [hvy]] at hby
      obtain ⟨hcx, hfx⟩ := k3o.at_ 0 hbx
      by_cases hlen : xs.length = ys.length
      · have hs : diffF xs ys = diffAt xs ys xs.length := by rw [HFn.out]; simp [hm, hm', hlen]
        have HS := Lib.hid hs
        have hle : xs.length ≤ ys.length ∧ ys.length ≤ xs.length := by omega
        have hx16 : (xs.length : Int) ≤ 16 := by have := (memOk_len hm).2; omega
        have hne : ((xs.length : Int) != (ys.length : Int)) = false := by simp [hlen]
        have HVX := Lib.hid hvx
        have HVY := Lib.hid hvy
        clear hm hm' hs hlen hvx hvy
        go_wp2_with (refine store_new rfl 88 _ _ rfl w2 _ (blkc (valF ys)) 88 rfl rfl (by rw [ZY.out]; kernel_rfl) (by rw [ZY.out]; kernel_rfl) (blkc_one _) ?_)
        have hB3 := hB2'
        clear hB hB1 hB1' hB2 hB2' hb1 hb2
        go_loopw [9, 36] (fun v i wr => ∃ k : Nat, k ≤ xs.length ∧ i = .int .i64 k ∧ wr.ownsRow (w2.heap.size + 1) 3 1 v (diffAt xs ys k).length (ints (diffAt xs ys k)) ∧ Below w.heap.size w wr ∧ w2.heap.size + 1 ≤ wr.heap.size ∧
          Bk wr w1.heap.size (blkc (valF xs)) 88 ∧ Bk wr w2.heap.size (blkc (valF ys)) 88) (fun _ i _ => xs.length - (intOf i).toNat)
        case atStart => exact ⟨0, Nat.zero_le _, rfl, World.ownsRow_nil _ _ _ _, hB3, by simp, k3, k4⟩
        case round =>
          obtain ⟨k, hk, rfl, hO, hB, hz, k1, k2⟩ := hrel
          by_cases hlt : k < xs.length
          · obtain ⟨x, hxk⟩ : ∃ x, Hid (xs[k]? = some x) := ⟨xs[k], Lib.hid (List.getElem?_eq_getElem hlt)⟩
            obtain ⟨y, hyk⟩ : ∃ y, Hid (ys[k]? = some y) := ⟨ys[k]'(by omega), Lib.hid (List.getElem?_eq_getElem (by omega))⟩
            have hgx : xs.getD k 0 = x := by have := hxk.out; simp [this]
            have hgy : ys.getD k 0 = y := by have := hyk.out; simp [this]
            obtain ⟨hx1, hxf⟩ := k1.at_ (1 + k) (x := .int .i64 x) (by rw [HVX.out, blkc_at hlt, hgx])
            obtain ⟨hy1, hyf⟩ := k2.at_ (1 + k) (x := .int .i64 y) (by rw [HVY.out, blkc_at (by omega), hgy])
            have hdl := diffAt_len xs ys k
            have hds := diffAt_succ xs ys k
            rw [hgx, hgy] at hds
            have HD := Lib.hid hds
            have hk16 : (k : Int) < 16 := by omega
            clear hds hgx hgy k3 k4 k3o hcx hfx hbx hby hc2 hf2
            cases hxy : (x != y)
            · go_wp2_with fail
              go_quiet (fail)
              go_wp2_with fail
              refine ⟨⟨k + 1, by omega, by go_num, ?_, below_more hB _, hz, k1.drewN _, k2.drewN _⟩, by simp [intOf]; omega⟩
              rw [HD.out, hxy, if_neg (by simp), List.append_nil]
              exact hO
            · go_wp2_with fail
              go_quiet (fail)
              have hOq : (wr.drewN nq).ownsRow (w2.heap.size + 1) 3 1 u9 (diffAt xs ys k).length (ints (diffAt xs ys k)) := hO
              have hBq := below_more hB nq
              have hl5 : w.heap.size ≤ w2.heap.size := by omega
              go_wp2_with ((at_builtin; refine wpList_append_own _ rfl _ _ 24 rfl (w2.heap.size + 1) 3 i (.int .i64 0) 1 8 Try.underlying24 hi hiz0 hiz1 hiz2 rfl (by decide) _ _ _ rfl (hOq.alloc _) ⟨wr.heap.size, 0, none⟩ 1 1 [.int .i64 k] rfl rfl ?c1 ?c2 ?c3 ?c4 ?c5 ?_))
              case c1 => exact new_cells _ _ _
              case c2 => simp [Value.oneCell']
              case c3 => unfold maxLen; omega
              case c4 => omega
              case c5 => have := hBq.size; simp; omega
              intro v' w4 hown' hgrow _
              have hB' := (hBq.alloc hBq.size _).grown hgrow (by have := hBq.size; simp; omega) (fun k hk => by have := (hOq.lt k hk).1; omega)
              have hD := HD.out
              rw [hxy, if_pos rfl] at hD
              have hown2 : w4.ownsRow (w2.heap.size + 1) 3 1 v' (diffAt xs ys (k + 1)).length (ints (diffAt xs ys (k + 1))) := by
                rw [hD, List.length_append]
                simpa [ints] using hown'
              have k1' := ((k1.drewN nq).alloc (.cells #[.int .i64 k] 3)).grown hgrow (fun g hg => by have := (hOq.lt g hg).1; omega)
              have k2' := ((k2.drewN nq).alloc (.cells #[.int .i64 k] 3)).grown hgrow (fun g hg => by have := (hOq.lt g hg).1; omega)
              have hz' := hgrow.size
              simp only [World.size_alloc] at hz'
              clear hD hown' hgrow
              go_wp2_with fail
              exact ⟨⟨k + 1, by omega, by go_num, hown2, hB', by simp at hz'; omega, k1', k2'⟩, by simp [intOf]; omega⟩
          · go_wp2_with fail
            go_ret
            obtain rfl : k = xs.length := by omega
            obtain ⟨bs, h1, h2⟩ := Own.of_owns hO
            exact ⟨_, bs, rfl, by rw [HS.out]; exact h1, fun b hb => by have := h2 b hb; have := hB3.size; simp at this; omega, hB⟩
      · have hs : diffF xs ys = [] := by rw [HFn.out]; simp [hlen]
        have HS := Lib.hid hs
        have hne : ((xs.length : Int) != (ys.length : Int)) = true := by simp; omega
        have HVX := Lib.hid hvx
        have HVY := Lib.hid hvy
        clear hm hm' hs hlen hvx hvy
        go_wp2_with (refine store_new rfl 88 _ _ rfl w2 _ (blkc (valF ys)) 88 rfl rfl (by rw [ZY.out]; kernel_rfl) (by rw [ZY.out]; kernel_rfl) (blkc_one _) ?_)
        go_ret
        exact ⟨_, [], rfl, by rw [HS.out]; exact Own.nil _ _, by simp, hB2'⟩
end Go.Proofs.Ytiflooopfpcelab
