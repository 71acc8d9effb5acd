/- What DrawMemOk and DrawMemText may give: a memory whose values are in their bounds. Condition: the bytes can be read, at most 1048576. -/
import Derived.Test.YtmagjjdinfkhkaaDoorDraw
namespace Go.Proofs.YtmagjjdinfkhkaaDoor
set_option maxRecDepth 20000
set_option linter.unusedSimpArgs false
set_option linter.unusedVariables false
open Go.ChangeShapes Go.WideShapes Go.ChangeAt Go.RowKit
set_option linter.unusedVariables false
def DrawnM (w : World) (e : Ending) (w' : World) : Prop :=
  ∃ v' ys bs, e = .returned (.agg #[v']) ∧ MemVal ys ∧ Own w' v' 1 ys.length (ints ys) bs ∧ (∀ b ∈ bs, w.heap.size ≤ b) ∧ Below w.heap.size w w'
theorem Byt.alloc {w : World} {A : Option Addr} {n : Nat} (h : Byt w A n) (o : Obj) : Byt (w.alloc o) A n :=
  h.keep (B := 0) (fun ad ha hn => by obtain ⟨ad', e1, e2, _⟩ := h hn; rw [ha] at e1; injection e1 with e1; subst e1; exact Below.heap_alloc w _ _ e2) (by simp)
theorem Byt.lt {w : World} {A : Option Addr} {n : Nat} (h : Byt w A n) : ∀ ad, A = some ad → 0 < n → ad.block < w.heap.size := fun ad ha hn => by
  obtain ⟨ad', e1, e2, _⟩ := h hn
  rw [ha] at e1
  injection e1 with e1
  subst e1
  exact e2
set_option maxHeartbeats 1000000 in
theorem DrawMemOk (A : Option Addr) (n c : Nat) (w : World) (h : Byt w A n) (hnc : n ≤ c) (hc : c ≤ 9223372036854775807) (hn : n ≤ 1048576) :
    Calls Tryd.prog 27 #[.slice A n c] w (DrawnM w) := by
  go_enter Tryd.func27, Tryd.ntmps27
  go_wp2_with fail
  refine (l01New A n c w.heap.size _ (h.alloc _) h.lt hnc hc hn).mono ?_
  rintro e w1 ⟨g, rfl, hc1, hg1, hb1⟩
  have k1 := (Bk.new w #[.slice none 0 0] 27).below hb1 (by simp)
  have hB1 := ((Below.refl w.heap.size w).alloc (Nat.le_refl _) (.cells #[.slice none 0 0] 27)).trans (hb1.mono (by simp))
  rw [World.size_alloc] at hg1
  have hg := hc1.lt
  go_wp2_with fail
  refine (l01DrawMem g _ _ hc1).mono ?_
  rintro e w2 ⟨v2, ys, bs, rfl, hmv, ho2, hbs, hc2, hn2⟩
  obtain ⟨A2, c2, rfl, -, -⟩ := ho2.slice
  have k2 := k1.only hn2 (by simp; omega)
  have hB2 := hB1.trans (hn2.below hB1.size (by simp; omega))
  have hz1 := hB1.size
  have hl2 := k2.lt
  obtain ⟨hcr, hfr⟩ := k2.at_ 0 (x := .slice none 0 0) rfl
  have HO := Lib.hid (ho2.far (i := 0) (u := .slice A2 ys.length c2) (b := w.heap.size) (fun b hb => by have := hbs b hb; have := hn2.size; omega))
  have HBS : Hid (∀ b ∈ bs, w.heap.size ≤ b) := Lib.hid (fun b hb => by have := hbs b hb; omega)
  have HM := Lib.hid hmv
  clear hmv hbs ho2
  go_wp2_with fail
  exact bodyPost_ret (v := .agg #[.slice A2 ys.length c2]) (by simp [results, Tryd.results27, go_sem, hcr]) rfl ⟨_, ys, bs, rfl, HM.out, HO.out, HBS.out, hB2.setCell (Nat.le_refl _) _⟩
set_option maxHeartbeats 1000000 in
theorem DrawMemText (A : Option Addr) (n c : Nat) (w : World) (h : Byt w A n) (hnc : n ≤ c) (hc : c ≤ 9223372036854775807) (hn : n ≤ 1048576) :
    Calls Tryd.prog 12 #[.slice A n c] w (DrawnM w) := by
  go_enter Tryd.func12, Tryd.ntmps12
  go_wp2_with fail
  refine (DrawMemOk A n c _ (h.alloc _) hnc hc hn).mono ?_
  rintro e w2 ⟨v2, ys, bs, rfl, hmv, ho2, hbs, hb2⟩
  obtain ⟨A2, c2, rfl, -, -⟩ := ho2.slice
  have k2 := (Bk.new w #[.slice none 0 0] 27).below hb2 (by simp)
  have hB2 := ((Below.refl w.heap.size w).alloc (Nat.le_refl _) (.cells #[.slice none 0 0] 27)).trans (hb2.mono (by simp))
  rw [World.size_alloc] at hbs
  have hl2 := k2.lt
  obtain ⟨hcr, hfr⟩ := k2.at_ 0 (x := .slice none 0 0) rfl
  have HO := Lib.hid (ho2.far (i := 0) (u := .slice A2 ys.length c2) (b := w.heap.size) (fun b hb => by have := hbs b hb; omega))
  have HBS : Hid (∀ b ∈ bs, w.heap.size ≤ b) := Lib.hid (fun b hb => by have := hbs b hb; omega)
  have HM := Lib.hid hmv
  clear hmv hbs ho2
  go_wp2_with fail
  exact bodyPost_ret (v := .agg #[.slice A2 ys.length c2]) (by simp [results, Tryd.results12, go_sem, hcr]) rfl ⟨_, ys, bs, rfl, HM.out, HO.out, HBS.out, hB2.setCell (Nat.le_refl _) _⟩
end Go.Proofs.YtmagjjdinfkhkaaDoor
