/- Contracts of chapter 1's functions (package impl), second part: the methods of a block, NewMem, Peek, Poke, SameMem, DiffMem. -/
import Derived.Test.YtmagjjdinfkhkaaDoorI1
import Derived.Test.YtmagjjdinfkhkaaDoorArrEq
import Derived.Deep.MidRow
import Derived.WalkSpells
namespace Go.Proofs.YtmagjjdinfkhkaaDoor
set_option maxRecDepth 20000
set_option linter.unusedSimpArgs false
set_option linter.unusedVariables false
open Go.ChangeShapes Go.WideShapes Go.ChangeAt Go.RowKit
set_option linter.unusedVariables false
theorem eql_aggG {P : Program} {ops : Array Oper} {rest : List Oper} {op : Oper} {a : Act} {w : World} {Q : Exit → Act → World → Prop} (hw : Region.wanted op (yielded ops a.tmps) = true) (t : TypeId) (x y : Operand) (ho : op.op = .binOp .eql t x y t)
    (xs ys : Array Value) (hx : a.eval x = .agg xs) (hy : a.eval y = .agg ys) (hm : P.eqGuardType P.depth t = false) (b : Bool) (hrun : (binOp .eql t (.agg xs) (.agg ys)).run P w = .ok (.bool b) w)
    (h : wpList P ops Q rest (a.put op.dst (.bool b)) w) : wpList P ops Q (op :: rest) a w :=
  wpList_step fun K hK => by
    rw [if_pos hw]
    unfold Oper.wp execOp
    simp only [ho, hx, hy, Sem.run_bind, run_eqGuard_agg w _ t x y xs ys hm, hrun, Result.andThen_ok, Sem.run_pure]
    exact hK _ _ h
theorem load_rowG {P : Program} {ops : Array Oper} {rest : List Oper} {o : Oper} {a : Act} {w : World} {Q : Exit → Act → World → Prop} (hw : Region.wanted o (yielded ops a.tmps) = true) (ty : TypeId) (x : Operand) (ho : o.op = .load ty x)
    (g : Nat) (hx : a.eval x = .pointer (some ⟨g, 0, none⟩)) (t : TypeId) (cs : Array Value) (fr : Nat × Nat) (d : TypeDesc) (hg : w.heap[g]? = some (.cells cs t fr))
    (hu : P.underlying ty = some d) (hd : (match d with | .struct _ | .array _ _ => true | _ => false) = true) (hi : (P.info? ty).map (·.size) = some cs.size)
    (h : wpList P ops Q rest (a.put o.dst (.agg cs)) w) : wpList P ops Q (o :: rest) a w :=
  wpList_step fun K hK => by rw [if_pos hw]; exact wp_load_row ty x ho g hx t cs fr d hg hu hd hi (hK _ _ h)
theorem load_midG {P : Program} {ops : Array Oper} {rest : List Oper} {op : Oper} {a : Act} {w : World} {Q : Exit → Act → World → Prop} (hw : Region.wanted op (yielded ops a.tmps) = true) (ty : TypeId) (x : Operand) (ho : op.op = .load ty x)
    (b o : Nat) (hx : a.eval x = .pointer (some ⟨b, o, none⟩)) (cs : List Value) (d : TypeDesc) (hc : w.rangeAt b o cs)
    (hu : P.underlying ty = some d) (hd : d.isRow = true) (hi : (P.info? ty).map (·.size) = some cs.length)
    (h : wpList P ops Q rest (a.put op.dst (.agg cs.toArray)) w) : wpList P ops Q (op :: rest) a w :=
  wpList_step fun K hK => by rw [if_pos hw]; exact wp_load_mid ty x ho b o hx cs d hc hu hd hi (hK _ _ h)
def pad (xs : List Int) : List Int := xs ++ List.replicate (16 - xs.length) 0
theorem pad_len {xs : List Int} (h : xs.length ≤ 16) : (pad xs).length = 16 := by simp [pad]; omega
theorem pad_at (xs : List Int) (j : Nat) : (blkc xs)[1 + j]? = (ints (pad xs))[j]? := by
  simp [blkc, pad, Nat.add_comm 1 j, ints]
theorem pad_eq {xs ys : List Int} (h : xs.length = ys.length) (hx : xs.length ≤ 16) : decide (pad xs = pad ys) = decide (xs = ys) := by
  rw [Bool.eq_iff_iff, decide_eq_true_iff, decide_eq_true_iff]
  constructor
  · intro e
    exact (List.append_inj e h).1
  · rintro rfl
    rfl
set_option maxRecDepth 20000 in
set_option maxHeartbeats 400000 in
theorem block_same (xs ys : List Int) (w : World) (hx : xs.length ≤ 16) (hy : ys.length ≤ 16) :
    Calls Tryd.prog 33 #[.agg (blkc xs), .agg (blkc ys)] w fun e w' => e = .returned (.bool (decide (xs = ys))) ∧ Below w.heap.size w w' := by
  have hb0 := blkc_zero xs
  have hb0' := blkc_zero ys
  have HB := ((Below.refl w.heap.size w).alloc (Nat.le_refl _) (.cells (blkc xs) 60)).alloc (by simp) (.cells (blkc ys) 60)
  by_cases hlen : xs.length = ys.length
  · have he : ((xs.length : Int) == (ys.length : Int)) = true := by simp [hlen]
    have HL := Lib.hid hlen
    clear hlen
    go_enter Tryd.func33, Tryd.ntmps33
    have k1 := (Bk.new w (blkc xs) 60).alloc (.cells (blkc ys) 60)
    have k2 := Bk.new (w.alloc (.cells (blkc xs) 60)) (blkc ys) 60
    rw [World.size_alloc] at k2
    have r1 : ((w.alloc (.cells (blkc xs) 60)).alloc (.cells (blkc ys) 60)).rangeAt w.heap.size 1 (ints (pad xs)) := fun j v hv => (k1.at_ (1 + j) (by rw [pad_at, hv])).1
    have r2 : ((w.alloc (.cells (blkc xs) 60)).alloc (.cells (blkc ys) 60)).rangeAt (w.heap.size + 1) 1 (ints (pad ys)) := fun j v hv => (k2.at_ (1 + j) (by rw [pad_at, hv])).1
    have lx := pad_len hx
    have ly := pad_len hy
    obtain ⟨i, hi, -, -, -⟩ := info_parts infoInt
    have heq := run_eql_ints (P := Tryd.prog) (w := (w.alloc (.cells (blkc xs) 60)).alloc (.cells (blkc ys) 60)) Tryd.underlying58 Tryd.underlying3 hi (by kernel_rfl) (pad xs) (pad ys) lx ly
    rw [pad_eq HL.out hx] at heq
    have HE := Lib.hid heq
    clear heq
    have HX := Lib.hid lx
    have HY := Lib.hid ly
    clear lx ly
    go_wp2_with (first
      | (refine load_midG rfl 58 _ rfl w.heap.size 1 rfl (ints (pad xs)) _ r1 Tryd.underlying58 rfl (by rw [ints_len, HX.out]; kernel_rfl) ?_)
      | (refine load_midG rfl 58 _ rfl (w.heap.size + 1) 1 rfl (ints (pad ys)) _ r2 Tryd.underlying58 rfl (by rw [ints_len, HY.out]; kernel_rfl) ?_)
      | (refine eql_aggG rfl 58 _ _ rfl (ints (pad xs)).toArray (ints (pad ys)).toArray rfl rfl (by kernel_rfl) (decide (xs = ys)) HE.out ?_))
    go_ret
    exact ⟨rfl, HB⟩
  · have he : ((xs.length : Int) == (ys.length : Int)) = false := by simp; omega
    have hne : decide (xs = ys) = false := by simp; intro e; exact hlen (by rw [e])
    have HN := Lib.hid hne
    clear hlen hne
    go_enter Tryd.func33, Tryd.ntmps33
    go_wp2_with fail
    go_ret
    exact ⟨ret_bool HN.out.symm, HB⟩
end Go.Proofs.YtmagjjdinfkhkaaDoor
