/- Contracts of chapter 1's functions (package impl), third part: Peek, Poke, SameMem, DiffMem. -/
import Derived.Test.YtmagjjdinfkhkaaDoorI2
namespace Go.Proofs.YtmagjjdinfkhkaaDoor
set_option maxRecDepth 20000
set_option linter.unusedSimpArgs false
set_option linter.unusedVariables false
open Go.ChangeShapes Go.WideShapes Go.ChangeAt Go.RowKit
set_option linter.unusedVariables false
theorem alloc_setRow (w : World) (cs ds : Array Value) (t : TypeId) : (w.alloc (.cells cs t)).setRow w.heap.size ds = w.alloc (.cells ds t) := by
  have e : ∀ (f : Obj → Obj) (h : Array Obj) (o : Obj), (h.push o).modify h.size f = h.push (f o) := by
    intro f h o
    apply Array.ext
    · simp
    · intro i h1 h2
      rw [Array.getElem_modify]
      by_cases hi : i = h.size
      · subst hi; simp
      · have : i < h.size := by simp at h1; omega
        rw [if_neg (by omega), Array.getElem_push_lt this, Array.getElem_push_lt this]
  unfold World.setRow World.alloc
  simp only
  rw [e]
/-- a whole row stored into a block that was just made -/
theorem store_new {P : Program} {ops : Array Oper} {rest : List Oper} {o : Oper} {a : Act} {Q : Exit → Act → World → Prop} (hgd : o.guard = none) (ty : TypeId) (x y : Operand) (ho : o.op = .store ty x y)
    (w : World) (old ds : Array Value) (t : TypeId) (hx : a.eval x = .pointer (some ⟨w.heap.size, 0, none⟩)) (hy : a.eval y = .agg ds) (hi : (P.info? ty).map (·.size) = some ds.size)
    (hold : old.size = ds.size) (h1 : ds.all (·.oneCell') = true) (h : wpList P ops Q rest (a.put o.dst undef) (w.alloc (.cells ds t))) : wpList P ops Q (o :: rest) a (w.alloc (.cells old t)) :=
  wpList_store_row hgd ty x y ho w.heap.size ds hx hy t old (heap_alloc_new w _) hi hold h1 (by rw [alloc_setRow]; exact h)
theorem blkc_one (xs : List Int) : (blkc xs).all (·.oneCell') = true := by simp [blkc, ints, Value.oneCell']
theorem memOk_len {xs : List Int} (h : memOk xs = true) : 1 ≤ xs.length ∧ xs.length ≤ 16 := by
  have := inB_true (show inB xs.length 1 16 = true by simp [memOk] at h; exact h.1)
  omega
def valF (xs : List Int) : List Int := if memOk xs then xs else []
theorem valF_len (xs : List Int) : (valF xs).length ≤ 16 := by
  unfold valF
  split
  · rename_i h; exact (memOk_len h).2
  · simp
theorem blockOf (v : Value) (xs : List Int) (w : World) (h : Rd w v 1 xs.length (ints xs)) :
    Calls Tryd.prog 32 #[.agg #[v]] w fun e w' => e = .returned (.tuple #[.agg (blkc (valF xs)), .bool (memOk xs)]) ∧ Below w.heap.size w w' := by
  cases hm : memOk xs
  · have : valF xs = [] := by simp [valF, hm]
    rw [this]
    exact blockOf_no v xs w h hm
  · have : valF xs = xs := by simp [valF, hm]
    rw [this]
    exact blockOf_yes v xs w h hm
set_option maxHeartbeats 1600000 in
theorem impl_SameMem (v u : Value) (xs ys : List Int) (w : World) (h : Rd w v 1 xs.length (ints xs)) (h' : Rd w u 1 ys.length (ints ys)) :
    Calls Tryd.prog 15 #[.agg #[v], .agg #[u]] w fun e w' => e = .returned (.bool (sameF xs ys)) ∧ Below w.heap.size w w' := by
  obtain ⟨A, c, rfl, -, -, -, -⟩ := id h
  obtain ⟨A', c', rfl, -, -, -, -⟩ := id h'
  have hB := ((Below.refl w.heap.size w).alloc (Nat.le_refl _) (.cells #[.slice A xs.length c] 27)).alloc (by simp) (.cells #[.slice A' ys.length c'] 27)
  have ZX := Lib.hid (blkc_size (valF_len xs))
  have ZY := Lib.hid (blkc_size (valF_len ys))
  go_enter Tryd.func15, Tryd.ntmps15
  go_wp2_with fail
  refine (blockOf _ xs _ (h.below hB)).mono ?_
  rintro e w1 ⟨rfl, hb1⟩
  have hB1 := hB.trans (hb1.mono (by simp; omega))
  have k2 := (Bk.new (w.alloc (.cells #[.slice A xs.length c] 27)) #[.slice A' ys.length c'] 27).below hb1 (by simp)
  rw [World.size_alloc] at k2
  obtain ⟨hc2, hf2⟩ := k2.at_ 0 rfl
  have hl2 := k2.lt
  go_wp2_with (refine store_new rfl 60 _ _ rfl w1 _ (blkc (valF xs)) 60 rfl rfl (by rw [ZX.out]; kernel_rfl) (by rw [ZX.out]; kernel_rfl) (blkc_one _) ?_)
  have hB1' := hB1.alloc hB1.size (.cells (blkc (valF xs)) 60)
  refine (blockOf _ ys _ (h'.below hB1')).mono ?_
  rintro e w2 ⟨rfl, hb2⟩
  have hB2 := hB1'.trans (hb2.mono hB1'.size)
  have k3 := (Bk.new w1 (blkc (valF xs)) 60).below hb2 (by simp)
  have hl3 := k3.lt
  have hB2' := hB2.alloc hB2.size (.cells (blkc (valF ys)) 60)
  have k3 := k3.alloc (.cells (blkc (valF ys)) 60)
  have k4 := Bk.new w2 (blkc (valF ys)) 60
  cases hm : memOk xs
  · have hs : sameF xs ys = false := by simp [sameF, hm]
    have HS := Lib.hid hs
    clear hs hm
    go_wp2_with (refine store_new rfl 60 _ _ rfl w2 _ (blkc (valF ys)) 60 rfl rfl (by rw [ZY.out]; kernel_rfl) (by rw [ZY.out]; kernel_rfl) (blkc_one _) ?_)
    all_goals (go_ret; exact ⟨ret_bool HS.out.symm, hB2'⟩)
  · cases hm' : memOk ys
    · have hs : sameF xs ys = false := by simp [sameF, hm']
      have HS := Lib.hid hs
      clear hs hm hm'
      go_wp2_with (refine store_new rfl 60 _ _ rfl w2 _ (blkc (valF ys)) 60 rfl rfl (by rw [ZY.out]; kernel_rfl) (by rw [ZY.out]; kernel_rfl) (blkc_one _) ?_)
      go_ret
      exact ⟨ret_bool HS.out.symm, hB2'⟩
    · have hs : sameF xs ys = decide (valF xs = valF ys) := by simp [sameF, hm, hm', valF]
      have HS := Lib.hid hs
      clear hs hm hm'
      go_wp2_with (first
        | (refine store_new rfl 60 _ _ rfl w2 _ (blkc (valF ys)) 60 rfl rfl (by rw [ZY.out]; kernel_rfl) (by rw [ZY.out]; kernel_rfl) (blkc_one _) ?_)
        | (refine load_rowG rfl 60 _ rfl w1.heap.size rfl 60 (blkc (valF xs)) (0, 0) _ k3 Tryd.underlying60 rfl (by rw [ZX.out]; kernel_rfl) ?_)
        | (refine load_rowG rfl 60 _ rfl w2.heap.size rfl 60 (blkc (valF ys)) (0, 0) _ k4 Tryd.underlying60 rfl (by rw [ZY.out]; kernel_rfl) ?_))
      refine (block_same _ _ _ (valF_len xs) (valF_len ys)).mono ?_
      rintro e w3 ⟨rfl, hb3⟩
      rw [← HS.out]
      go_wp2_with fail
      go_ret
      exact ⟨rfl, hB2'.trans (hb3.mono hB2'.size)⟩
end Go.Proofs.YtmagjjdinfkhkaaDoor
