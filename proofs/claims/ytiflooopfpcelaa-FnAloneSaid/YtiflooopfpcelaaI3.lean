/- Contracts of chapter 1's functions (package impl), third part: Peek, Poke, SameMem, DiffMem. -/
import Derived.Test.YtiflooopfpcelaaI2
namespace Go.Proofs.Ytiflooopfpcelaa
set_option maxRecDepth 20000
set_option linter.unusedSimpArgs false
set_option linter.unusedVariables false
open Go.ChangeShapes Go.WideShapes Go.ChangeAt Go.RowKit
set_option linter.unusedVariables false
theorem alloc_setRow (w : World) (cs ds : Array Value) (t : TypeId) : (w.alloc (.cells cs t)).setRow w.heap.size ds = w.alloc (.cells ds t) := by
  have e : ∀ (f : Obj → Obj) (h : Array Obj) (o : Obj), (h.push o).modify h.size f = h.push (f o) := by
    intro f h o
    apply Array.ext
    · simp
    · intro i h1 h2
      rw [Array.getElem_modify]
      by_cases hi : i = h.size
      · subst hi; simp
      · have : i < h.size := by simp at h1; omega
        rw [if_neg (by omega), Array.getElem_push_lt this, Array.getElem_push_lt this]
  unfold World.setRow World.alloc
  simp only
  rw [e]
/-- a whole row stored into a block that was just made -/
theorem store_new {P : Program} {ops : Array Oper} {rest : List Oper} {o : Oper} {a : Act} {Q : Exit → Act → World → Prop} (hgd : o.guard = none) (ty : TypeId) (x y : Operand) (ho : o.op = .store ty x y)
    (w : World) (old ds : Array Value) (t : TypeId) (hx : a.eval x = .pointer (some ⟨w.heap.size, 0, none⟩)) (hy : a.eval y = .agg ds) (hi : (P.info? ty).map (·.size) = some ds.size)
    (hold : old.size = ds.size) (h1 : ds.all (·.oneCell') = true) (h : wpList P ops Q rest (a.put o.dst undef) (w.alloc (.cells ds t))) : wpList P ops Q (o :: rest) a (w.alloc (.cells old t)) :=
  wpList_store_row hgd ty x y ho w.heap.size ds hx hy t old (heap_alloc_new w _) hi hold h1 (by rw [alloc_setRow]; exact h)
theorem blkc_one (xs : List Int) : (blkc xs).all (·.oneCell') = true := by simp [blkc, ints, Value.oneCell']
theorem memOk_len {xs : List Int} (h : memOk xs = true) : 1 ≤ xs.length ∧ xs.length ≤ 16 := by
  have := inB_true (show inB xs.length 1 16 = true by simp [memOk] at h; exact h.1)
  omega
set_option maxHeartbeats 800000 in
theorem impl_Peek (v : Value) (xs : List Int) (a : Int) (w : World) (h : Rd w v 1 xs.length (ints xs)) (ha : (Lit.int .i64 a).wf = true) :
    Calls Try.prog 171 #[.agg #[v], .int .i64 a] w fun e w' => e = .returned (.int .i64 (peekF xs a)) ∧ Below w.heap.size w w' := by
  have ha' := bounds_i64 ha
  obtain ⟨A, c, rfl, -, -, -, -⟩ := id h
  have hB := (Below.refl w.heap.size w).alloc (Nat.le_refl _) (.cells #[.slice A xs.length c] 38)
  cases hm : memOk xs
  · have hs : peekF xs a = 0 := by simp [peekF, hm]
    have HS := Lib.hid hs
    have HM := Lib.hid hm
    clear hs hm
    go_enter Try.func171, Try.ntmps171
    go_wp2_with fail
    refine (blockOf_no _ xs _ (h.below hB) HM.out).mono ?_
    rintro e w1 ⟨rfl, hb1⟩
    have hB1 := hB.trans (hb1.mono (by simp))
    go_wp2_with (refine store_new rfl 147 _ _ rfl w1 _ (blkc []) 147 rfl rfl (by kernel_rfl) rfl (by kernel_rfl) ?_)
    go_ret
    exact ⟨ret_int HS.out.symm, hB1.alloc hB1.size _⟩
  · have hlen := memOk_len hm
    have HM := Lib.hid hm
    have hsz := blkc_size (xs := xs) hlen.2
    have HZ := Lib.hid hsz
    clear hm hsz
    cases hin : inB a 0 (xs.length - 1)
    · have hs : peekF xs a = 0 := by simp [peekF, hin]
      have HS := Lib.hid hs
      have HI := Lib.hid hin
      clear hs hin
      go_enter Try.func171, Try.ntmps171
      go_wp2_with fail
      refine (blockOf_yes _ xs _ (h.below hB) HM.out).mono ?_
      rintro e w1 ⟨rfl, hb1⟩
      have hB1 := hB.trans (hb1.mono (by simp))
      have hB2 := hB1.alloc hB1.size (.cells (blkc xs) 147)
      have k1 := Bk.new w1 (blkc xs) 147
      go_wp2_with (first
        | (refine store_new rfl 147 _ _ rfl w1 _ (blkc xs) 147 rfl rfl (by rw [HZ.out]; kernel_rfl) (by rw [HZ.out]; kernel_rfl) (blkc_one xs) ?_)
        | (refine load_rowG rfl 147 _ rfl w1.heap.size rfl 147 (blkc xs) (0, 0) _ k1 Try.underlying147 rfl (by rw [HZ.out]; kernel_rfl) ?_))
      refine (block_has xs a _ hlen.2 ha).mono ?_
      rintro e w2 ⟨rfl, hb2⟩
      rw [HI.out]
      have hB3 := hB2.trans (hb2.mono hB2.size)
      go_wp2_with fail
      go_ret
      exact ⟨ret_int HS.out.symm, hB3⟩
    · obtain ⟨h1, h2⟩ := inB_true hin
      obtain ⟨k, rfl⟩ := Int.eq_ofNat_of_zero_le h1
      have hs : peekF xs k = xs.getD k 0 := by simp [peekF, hin, HM.out]
      have HS := Lib.hid hs
      have HI := Lib.hid hin
      have hk16 : (k : Int) < 16 := by omega
      clear hs hin
      go_enter Try.func171, Try.ntmps171
      go_wp2_with fail
      refine (blockOf_yes _ xs _ (h.below hB) HM.out).mono ?_
      rintro e w1 ⟨rfl, hb1⟩
      have hB1 := hB.trans (hb1.mono (by simp))
      have hB2 := hB1.alloc hB1.size (.cells (blkc xs) 147)
      have k1 := Bk.new w1 (blkc xs) 147
      go_wp2_with (first
        | (refine store_new rfl 147 _ _ rfl w1 _ (blkc xs) 147 rfl rfl (by rw [HZ.out]; kernel_rfl) (by rw [HZ.out]; kernel_rfl) (blkc_one xs) ?_)
        | (refine load_rowG rfl 147 _ rfl w1.heap.size rfl 147 (blkc xs) (0, 0) _ k1 Try.underlying147 rfl (by rw [HZ.out]; kernel_rfl) ?_))
      refine (block_has xs k _ hlen.2 ha).mono ?_
      rintro e w2 ⟨rfl, hb2⟩
      rw [HI.out]
      have hB3 := hB2.trans (hb2.mono hB2.size)
      obtain ⟨hc, hf⟩ := (k1.below hb2 k1.lt).at_ (1 + k) (blkc_at (show k < xs.length by omega))
      go_wp2_with fail
      go_ret
      exact ⟨ret_int (by rw [HS.out]; simp), hB3⟩
def valF (xs : List Int) : List Int := if memOk xs then xs else []
theorem valF_len (xs : List Int) : (valF xs).length ≤ 16 := by
  unfold valF
  split
  · rename_i h; exact (memOk_len h).2
  · simp
theorem blockOf (v : Value) (xs : List Int) (w : World) (h : Rd w v 1 xs.length (ints xs)) :
    Calls Try.prog 163 #[.agg #[v]] w fun e w' => e = .returned (.tuple #[.agg (blkc (valF xs)), .bool (memOk xs)]) ∧ Below w.heap.size w w' := by
  cases hm : memOk xs
  · have : valF xs = [] := by simp [valF, hm]
    rw [this]
    exact blockOf_no v xs w h hm
  · have : valF xs = xs := by simp [valF, hm]
    rw [this]
    exact blockOf_yes v xs w h hm
theorem blkc_set {xs : List Int} {k : Nat} {x : Int} (h : k < xs.length) : (blkc xs).setIfInBounds (1 + k) (.int .i64 x) = blkc (xs.set k x) := by
  have hl : k < (ints xs).length := by rw [ints_len]; exact h
  simp only [blkc, List.setIfInBounds_toArray, Nat.add_comm 1 k, List.set_cons_succ, List.length_set, List.set_append, if_pos hl, ints_set]
set_option maxHeartbeats 1600000 in
theorem impl_Poke (v : Value) (xs : List Int) (a x : Int) (w : World) (h : Rd w v 1 xs.length (ints xs)) (hsz : xs.length ≤ 16777216) (ha : (Lit.int .i64 a).wf = true) :
    Calls Try.prog 144 #[.agg #[v], .int .i64 a, .int .i64 x] w (RetMemB (pokeF xs a x) (pokeOk xs a x) w) := by
  have ha' := bounds_i64 ha
  obtain ⟨A, c, rfl, -, hnc, hc, -⟩ := id h
  unfold maxLen at hc
  have hB := ((Below.refl w.heap.size w).alloc (Nat.le_refl _) (.cells #[.slice A xs.length c] 38)).alloc (by simp) (.cells #[.slice none 0 0] 38)
  have ZX := Lib.hid (blkc_size (valF_len xs))
  go_enter Try.func144, Try.ntmps144
  go_wp2_with fail
  refine (blockOf _ xs _ (h.below hB)).mono ?_
  rintro e w1 ⟨rfl, hb1⟩
  have hB1 := hB.trans (hb1.mono (by simp; omega))
  have hB2 := hB1.alloc hB1.size (.cells (blkc (valF xs)) 147)
  have k1 := (((Bk.new w #[.slice A xs.length c] 38).alloc (.cells #[.slice none 0 0] 38)).below hb1 (by simp; omega)).alloc (.cells (blkc (valF xs)) 147)
  have k2 := ((Bk.new (w.alloc (.cells #[.slice A xs.length c] 38)) #[.slice none 0 0] 38).below hb1 (by simp)).alloc (.cells (blkc (valF xs)) 147)
  rw [World.size_alloc] at k2
  have k3 := Bk.new w1 (blkc (valF xs)) 147
  have hz1 := hb1.size
  simp only [World.size_alloc] at hz1
  have fin1 : ∀ w2 : World, Below w.heap.size w w2 → Bk w2 w.heap.size #[.slice A xs.length c] 38 → Bk w2 (w.heap.size + 1) #[.slice none 0 0] 38 → pokeOk xs a x = false →
      Calls Try.prog 127 #[.agg #[.slice A xs.length c]] w2 fun e w3 => ∃ A1 c1, e = .returned (.agg #[.slice A1 xs.length c1]) ∧ Bk w3 (w.heap.size + 1) #[.slice none 0 0] 38 ∧
        RetMemB (pokeF xs a x) (pokeOk xs a x) w (.returned (.tuple #[.agg #[.slice A1 xs.length c1], .bool false])) (w3.setCell ⟨w.heap.size + 1, 0, none⟩ (.slice A1 xs.length c1)) := by
    intro w2 hb k1 k2 hp
    refine (copyMem _ xs _ (h.below hb) hsz).mono ?_
    rintro e w3 ⟨v1, bs1, rfl, ho1, hbs1, hb3⟩
    obtain ⟨A1, c1, rfl, hcc1, hcm1⟩ := ho1.slice
    refine ⟨A1, c1, rfl, k2.below hb3 k2.lt, _, bs1, by rw [hp], ?_, fun b hb' => Nat.le_trans hb.size (hbs1 b hb'), (hb.trans (hb3.mono hb.size)).setCell (Nat.le_succ _) _⟩
    simp only [pokeF, hp]
    exact ho1.far fun k hk => by have := hbs1 k hk; have := k2.lt; omega
  have HF := Lib.hid fin1
  clear fin1
  cases hm : memOk xs
  · have hp : pokeOk xs a x = false := by simp [pokeOk, hm]
    have HP := Lib.hid hp
    clear hm hp
    obtain ⟨hc1, hf1⟩ := k1.at_ 0 (x := .slice A xs.length c) rfl
    go_wp2_with (refine store_new rfl 147 _ _ rfl w1 _ (blkc (valF xs)) 147 rfl rfl (by rw [ZX.out]; kernel_rfl) (by rw [ZX.out]; kernel_rfl) (blkc_one _) ?_)
    have K1 := Lib.hid k1
    have K2 := Lib.hid k2
    have HB := hB2
    refine (HF.out _ HB K1.out K2.out HP.out).mono ?_
    rintro e w3 ⟨A1, c1, rfl, k4, hret⟩
    have HR := Lib.hid hret
    clear hret
    obtain ⟨hc2, hf2⟩ := k4.at_ 0 (x := .slice none 0 0) rfl
    go_wp2_with fail
    exact bodyPost_ret (v := .tuple #[.agg #[.slice A1 xs.length c1], .bool false]) (by simp [results, Try.results144, go_sem, hc2]) rfl HR.out
  · have hlen := memOk_len hm
    have hval : valF xs = xs := by simp [valF, hm]
    rw [hval] at ZX hB2 k1 k2 k3 ⊢
    have HM := Lib.hid hm
    clear hm hval
    obtain ⟨hc1, hf1⟩ := k1.at_ 0 (x := .slice A xs.length c) rfl
    cases hin : inB a 0 (xs.length - 1)
    · have hp : pokeOk xs a x = false := by simp [pokeOk, hin]
      have HP := Lib.hid hp
      have HI := Lib.hid hin
      clear hin hp
      go_wp2_with (first | (refine store_new rfl 147 _ _ rfl w1 _ (blkc xs) 147 rfl rfl (by rw [ZX.out]; kernel_rfl) (by rw [ZX.out]; kernel_rfl) (blkc_one _) ?_) | (refine load_rowG rfl 147 _ rfl w1.heap.size rfl 147 (blkc xs) (0, 0) _ k3 Try.underlying147 rfl (by rw [ZX.out]; kernel_rfl) ?_))
      refine (block_has xs a _ hlen.2 ha).mono ?_
      rintro e w2 ⟨rfl, hb2⟩
      rw [HI.out]
      have HB := hB2.trans (hb2.mono hB2.size)
      have k1 := k1.below hb2 k1.lt
      have k2 := k2.below hb2 k2.lt
      have k3 := k3.below hb2 k3.lt
      have K1 := Lib.hid k1
      have K2 := Lib.hid k2
      obtain ⟨hc3, hf3⟩ := k1.at_ 0 (x := .slice A xs.length c) rfl
      go_wp2_with fail
      refine (HF.out _ HB K1.out K2.out HP.out).mono ?_
      rintro e w3 ⟨A1, c1, rfl, k4, hret⟩
      have HR := Lib.hid hret
      clear hret
      obtain ⟨hc2, hf2⟩ := k4.at_ 0 (x := .slice none 0 0) rfl
      go_wp2_with fail
      exact bodyPost_ret (v := .tuple #[.agg #[.slice A1 xs.length c1], .bool false]) (by simp [results, Try.results144, go_sem, hc2]) rfl HR.out
    · have HI := Lib.hid hin
      cases hv : valB x
      · have hp : pokeOk xs a x = false := by simp [pokeOk, hv]
        have HP := Lib.hid hp
        have HV := Lib.hid hv
        clear hin hp hv
        go_wp2_with (first | (refine store_new rfl 147 _ _ rfl w1 _ (blkc xs) 147 rfl rfl (by rw [ZX.out]; kernel_rfl) (by rw [ZX.out]; kernel_rfl) (blkc_one _) ?_) | (refine load_rowG rfl 147 _ rfl w1.heap.size rfl 147 (blkc xs) (0, 0) _ k3 Try.underlying147 rfl (by rw [ZX.out]; kernel_rfl) ?_))
        refine (block_has xs a _ hlen.2 ha).mono ?_
        rintro e w2 ⟨rfl, hb2⟩
        rw [HI.out]
        have HB := hB2.trans (hb2.mono hB2.size)
        have k1 := k1.below hb2 k1.lt
        have k2 := k2.below hb2 k2.lt
        have k3 := k3.below hb2 k3.lt
        have K1 := Lib.hid k1
        have K2 := Lib.hid k2
        obtain ⟨hc3, hf3⟩ := k1.at_ 0 (x := .slice A xs.length c) rfl
        go_wp2_with fail
        refine (impl_valueOk _ _).mono ?_
        rintro e w' ⟨rfl, rfl⟩
        rw [HV.out]
        go_wp2_with fail
        refine (HF.out _ HB K1.out K2.out HP.out).mono ?_
        rintro e w3 ⟨A1, c1, rfl, k4, hret⟩
        have HR := Lib.hid hret
        clear hret
        obtain ⟨hc2, hf2⟩ := k4.at_ 0 (x := .slice none 0 0) rfl
        go_wp2_with fail
        exact bodyPost_ret (v := .tuple #[.agg #[.slice A1 xs.length c1], .bool false]) (by simp [results, Try.results144, go_sem, hc2]) rfl HR.out
      · have hp : pokeOk xs a x = true := by simp [pokeOk, hv, hin, HM.out]
        have HP := Lib.hid hp
        have HV := Lib.hid hv
        obtain ⟨h1, h2⟩ := inB_true hin
        obtain ⟨k, rfl⟩ := Int.eq_ofNat_of_zero_le h1
        have hk16 : (k : Int) < 16 := by omega
        clear hin hp hv
        go_wp2_with (first | (refine store_new rfl 147 _ _ rfl w1 _ (blkc xs) 147 rfl rfl (by rw [ZX.out]; kernel_rfl) (by rw [ZX.out]; kernel_rfl) (blkc_one _) ?_) | (refine load_rowG rfl 147 _ rfl w1.heap.size rfl 147 (blkc xs) (0, 0) _ k3 Try.underlying147 rfl (by rw [ZX.out]; kernel_rfl) ?_))
        refine (block_has xs k _ hlen.2 ha).mono ?_
        rintro e w2 ⟨rfl, hb2⟩
        rw [HI.out]
        have HB := hB2.trans (hb2.mono hB2.size)
        have k1 := k1.below hb2 k1.lt
        have k2 := k2.below hb2 k2.lt
        have k3 := k3.below hb2 k3.lt
        have K1 := Lib.hid k1
        have K2 := Lib.hid k2
        obtain ⟨hc3, hf3⟩ := k3.at_ (1 + k) (blkc_at (show k < xs.length by omega))
        have k4 := k3.set_ (1 + k) (.int .i64 x)
        rw [blkc_set (show k < xs.length by omega)] at k4
        have k5 := k2.far (p := ⟨w1.heap.size, 1 + k, none⟩) (by simp; omega) (.int .i64 x)
        have ZY := Lib.hid (blkc_size (xs := xs.set k x) (by rw [List.length_set]; exact hlen.2))
        have HB2 := HB.setCell (p := ⟨w1.heap.size, 1 + k, none⟩) (by show w.heap.size ≤ w1.heap.size; omega) (.int .i64 x)
        go_wp2_with fail
        refine (impl_valueOk _ _).mono ?_
        rintro e w' ⟨rfl, rfl⟩
        rw [HV.out]
        go_wp2_with (refine load_rowG rfl 147 _ rfl w1.heap.size rfl 147 (blkc (xs.set k x)) (0, 0) _ k4 Try.underlying147 rfl (by rw [ZY.out]; kernel_rfl) ?_)
        refine (block_mem (xs.set k x) _ (by rw [List.length_set]; exact hlen.2)).mono ?_
        rintro e w3 ⟨v1, bs1, rfl, ho1, hbs1, hb3⟩
        obtain ⟨A1, c1, rfl, hcc1, hcm1⟩ := ho1.slice
        have k6 := k5.below hb3 k5.lt
        obtain ⟨hc6, hf6⟩ := k6.at_ 0 (x := .slice none 0 0) rfl
        have hl5 := k5.lt
        go_wp2_with fail
        refine bodyPost_ret (v := .tuple #[.agg #[.slice A1 (xs.set k x).length c1], .bool true]) (by simp [results, Try.results144, go_sem, hc6]) rfl ⟨_, bs1, by rw [HP.out], ?_, fun b hb => Nat.le_trans HB2.size (hbs1 b hb), (HB2.trans (hb3.mono HB2.size)).setCell (Nat.le_succ _) _⟩
        simp only [pokeF, HP.out, if_true, Int.toNat_natCast]
        exact ho1.far fun g hg => by have := hbs1 g hg; omega
end Go.Proofs.Ytiflooopfpcelaa
