/- Contracts of the draws of instructions and codes (package spec). Conditions: the cursor's bytes can be read; the numbers are small. -/
import Derived.Test.YtgbgjlmkmlhefaaDraw
import Derived.Test.YtgbgjlmkmlhefaaS2c
namespace Go.Proofs.Ytgbgjlmkmlhefaa
set_option maxRecDepth 20000
set_option linter.unusedSimpArgs false
set_option linter.unusedVariables false
open Go.ChangeShapes Go.WideShapes Go.ChangeAt Go.RowKit
set_option linter.unusedVariables false
theorem Only.setNew {bs : List Nat} {w w1 : World} {p : Addr} (h : Only bs w w1) (hp : w.heap.size ≤ p.block) (u : Value) : Only bs w (w1.setCell p u) :=
  ⟨h.os, h.tape, h.output, by simpa [World.setCell] using h.size, fun k hk hn => (Below.heap_setCell w1 p u k (by omega)).trans (h.block k hk hn)⟩
theorem Cur.setFar {w : World} {g lo : Nat} {p : Addr} (h : Cur lo w g) (hp : g < p.block) (u : Value) : Cur lo (w.setCell p u) g := by
  obtain ⟨b, i, m⟩ := p
  refine h.only (bs := [b]) ⟨rfl, rfl, rfl, by simp [World.setCell], fun k _ hn => Below.heap_setCell _ _ _ _ (by simpa using hn)⟩ (by simpa using hp)
def SmallI (i : Ins) : Prop := (0 ≤ i.o ∧ i.o ≤ 8) ∧ (0 ≤ i.r ∧ i.r ≤ 2) ∧ (0 ≤ i.s ∧ i.s ≤ 2) ∧ (-1 ≤ i.n ∧ i.n ≤ 1000)
def DrawnI (lo g : Nat) (w : World) (e : Ending) (w' : World) : Prop := ∃ i : Ins, SmallI i ∧ e = .returned (Value.agg #[.int .i64 i.o, .int .i64 i.r, .int .i64 i.s, .int .i64 i.n]) ∧ Cur lo w' g ∧ Only [g] w w'
theorem ops_mem {x : Int} (h : x ∈ ([0, 0, 1, 2, 2, 2, 3, 3, 3, 3, 4, 5, 6, 7, 8] : List Int)) : x = 0 ∨ x = 1 ∨ x = 2 ∨ x = 3 ∨ x = 4 ∨ x = 5 ∨ x = 6 ∨ x = 7 ∨ x = 8 := by
  simp at h
  omega
theorem ns_mem {x : Int} (h : x ∈ ([0, 1, 1, 2, 5, -1, 1000] : List Int)) : -1 ≤ x ∧ x ≤ 1000 := by
  simp at h
  omega
set_option maxHeartbeats 6400000 in
theorem l02DrawInstr (g : Nat) (cells size : Int) (w : World) {lo : Nat} (h : Cur lo w g) (hc0 : 0 ≤ cells ∧ cells ≤ 20) (hs0 : 0 ≤ size ∧ size ≤ 20) :
    Calls Try.prog 100 #[.pointer (some ⟨g, 0, none⟩), .int .i64 cells, .int .i64 size] w (DrawnI lo g w) := by
  have hg := h.lt
  have kA0 := (Bk.new w #[.int .i64 0, .int .i64 0, .int .i64 0, .int .i64 0] 74).alloc (.cells #[.int .i64 0, .int .i64 0, .int .i64 1, .int .i64 2, .int .i64 2, .int .i64 2, .int .i64 3, .int .i64 3, .int .i64 3, .int .i64 3, .int .i64 4, .int .i64 5, .int .i64 6, .int .i64 7, .int .i64 8] 3)
  have hcu0 := (h.below ((Below.refl _ _).alloc (Nat.le_refl _) (.cells #[.int .i64 0, .int .i64 0, .int .i64 0, .int .i64 0] 74))).below ((Below.refl _ _).alloc (Nat.le_refl _) (.cells #[.int .i64 0, .int .i64 0, .int .i64 1, .int .i64 2, .int .i64 2, .int .i64 2, .int .i64 3, .int .i64 3, .int .i64 3, .int .i64 3, .int .i64 4, .int .i64 5, .int .i64 6, .int .i64 7, .int .i64 8] 3))
  have ho0 := ((Only.refl [g] w).alloc (.cells #[.int .i64 0, .int .i64 0, .int .i64 0, .int .i64 0] 74)).alloc (.cells #[.int .i64 0, .int .i64 0, .int .i64 1, .int .i64 2, .int .i64 2, .int .i64 2, .int .i64 3, .int .i64 3, .int .i64 3, .int .i64 3, .int .i64 4, .int .i64 5, .int .i64 6, .int .i64 7, .int .i64 8] 3)
  have HR : Hid (Rd ((w.alloc (.cells #[.int .i64 0, .int .i64 0, .int .i64 0, .int .i64 0] 74)).alloc (.cells #[.int .i64 0, .int .i64 0, .int .i64 1, .int .i64 2, .int .i64 2, .int .i64 2, .int .i64 3, .int .i64 3, .int .i64 3, .int .i64 3, .int .i64 4, .int .i64 5, .int .i64 6, .int .i64 7, .int .i64 8] 3)) (.slice (some ⟨w.heap.size + 1, 0, none⟩) 15 15) 1 15 (ints [0, 0, 1, 2, 2, 2, 3, 3, 3, 3, 4, 5, 6, 7, 8])) := Lib.hid (by
    have := rd_lit (w.alloc (.cells #[.int .i64 0, .int .i64 0, .int .i64 0, .int .i64 0] 74)) [0, 0, 1, 2, 2, 2, 3, 3, 3, 3, 4, 5, 6, 7, 8] 3 (by simp)
    rw [World.size_alloc] at this
    exact this)
  go_enter Try.func100, Try.ntmps100
  go_wp2_with fail
  refine (l01PickInt g _ [0, 0, 1, 2, 2, 2, 3, 3, 3, 3, 4, 5, 6, 7, 8] _ hcu0 HR.out (by decide) (by intro A n c he ad ha; injection he with e1; subst e1; injection ha with ha; subst ha; simp; omega)).mono ?_
  rintro e w1 ⟨op, hop, rfl, hcu1, ho1⟩
  have kA1 := kA0.only ho1 (by simp; omega)
  have hz1 : w.heap.size + 2 ≤ w1.heap.size := by have := ho1.size; simpa using this
  have hot1 := ho0.trans ho1
  clear kA0 hcu0 ho0 ho1
  rcases ops_mem hop with rfl | rfl | rfl | rfl | rfl | rfl | rfl | rfl | rfl
  · clear hop
    have kC := Bk.new w1 #[.int .i64 0, .int .i64 0, .int .i64 0, .int .i64 0] 74
    have kA := kA1.alloc (.cells #[.int .i64 0, .int .i64 0, .int .i64 0, .int .i64 0] 74)
    have hcu := hcu1.below ((Below.refl _ _).alloc (Nat.le_refl _) (.cells #[.int .i64 0, .int .i64 0, .int .i64 0, .int .i64 0] 74))
    have ho := hot1.alloc (.cells #[.int .i64 0, .int .i64 0, .int .i64 0, .int .i64 0] 74)
    clear kA1 hcu1 hot1
    obtain ⟨hx0, hf0⟩ := kC.at_ 0 rfl
    obtain ⟨hx1, hf1⟩ := kC.at_ 1 rfl
    obtain ⟨hx2, hf2⟩ := kC.at_ 2 rfl
    obtain ⟨hx3, hf3⟩ := kC.at_ 3 rfl
    go_wp2_with fail
    refine (l02Named 0 114 _).mono ?_
    rintro e z1 ⟨rfl, hb1⟩
    rw [show namedF 0 114 = true from rfl]
    have kC1 := kC.below hb1 kC.lt
    have kA1 := kA.below hb1 kA.lt
    have hcu1 := hcu.below hb1
    have ho1 := ho.thenBelow hb1 ho.size
    clear hx0 hf0 hx1 hf1 hx2 hf2 hx3 hf3 kC kA hcu ho
    obtain ⟨hx0, hf0⟩ := kC1.at_ 0 rfl
    obtain ⟨hx1, hf1⟩ := kC1.at_ 1 rfl
    obtain ⟨hx2, hf2⟩ := kC1.at_ 2 rfl
    obtain ⟨hx3, hf3⟩ := kC1.at_ 3 rfl
    go_wp2_with fail
    refine (l01Below g 3 _ hcu1 (WalkArith.wf_i64 (by omega))).mono ?_
    rintro e z2 ⟨x2, hxx2, rfl, hcu12, hoo2⟩
    have hxr2 : 0 ≤ x2 ∧ x2 ≤ 2 := by omega
    have kC12 := (kC1.only hoo2 (by simp; omega)).set_ 1 (.int .i64 x2)
    have kC12o := kC1.only hoo2 (by simp; omega)
    have kA12 := (kA1.only hoo2 (by simp; omega)).far (p := ⟨w1.heap.size, 1, none⟩) (by show w.heap.size ≠ w1.heap.size; omega) (.int .i64 x2)
    have hcu12s := hcu12.setFar (p := ⟨w1.heap.size, 1, none⟩) (by show g < w1.heap.size; omega) (.int .i64 x2)
    have ho12 := (ho1.trans hoo2).setNew (p := ⟨w1.heap.size, 1, none⟩) (by show w.heap.size ≤ w1.heap.size; omega) (.int .i64 x2)
    clear hxx2 hx0 hf0 hx1 hf1 hx2 hf2 hx3 hf3
    obtain ⟨hy2x0, hg2x0⟩ := kC12o.at_ 0 rfl
    obtain ⟨hy2x1, hg2x1⟩ := kC12o.at_ 1 rfl
    obtain ⟨hy2x2, hg2x2⟩ := kC12o.at_ 2 rfl
    obtain ⟨hy2x3, hg2x3⟩ := kC12o.at_ 3 rfl
    clear kC1 kA1 hcu1 ho1 hoo2 hcu12 kC12o
    obtain ⟨hx0, hf0⟩ := kC12.at_ 0 rfl
    obtain ⟨hx1, hf1⟩ := kC12.at_ 1 rfl
    obtain ⟨hx2, hf2⟩ := kC12.at_ 2 rfl
    obtain ⟨hx3, hf3⟩ := kC12.at_ 3 rfl
    go_wp2_with fail
    refine (l02Named 0 115 _).mono ?_
    rintro e z3 ⟨rfl, hb3⟩
    rw [show namedF 0 115 = false from rfl]
    have kC123 := kC12.below hb3 kC12.lt
    have kA123 := kA12.below hb3 kA12.lt
    have hcu12s3 := hcu12s.below hb3
    have ho123 := ho12.thenBelow hb3 ho12.size
    clear hx0 hf0 hx1 hf1 hx2 hf2 hx3 hf3 kC12 kA12 hcu12s ho12
    obtain ⟨hx0, hf0⟩ := kC123.at_ 0 rfl
    obtain ⟨hx1, hf1⟩ := kC123.at_ 1 rfl
    obtain ⟨hx2, hf2⟩ := kC123.at_ 2 rfl
    obtain ⟨hx3, hf3⟩ := kC123.at_ 3 rfl
    have HP4 : Hid (Rd (z3.alloc (.cells #[.int .i64 0, .int .i64 1, .int .i64 1, .int .i64 2, .int .i64 5, .int .i64 (-1), .int .i64 1000] 3)) (.slice (some ⟨z3.heap.size, 0, none⟩) 7 7) 1 7 (ints [0, 1, 1, 2, 5, -1, 1000])) := Lib.hid (rd_lit z3 [0, 1, 1, 2, 5, -1, 1000] 3 (by simp))
    have hgl4 : g < z3.heap.size := hcu12s3.lt
    have kC1234a := kC123.alloc (.cells #[.int .i64 0, .int .i64 1, .int .i64 1, .int .i64 2, .int .i64 5, .int .i64 (-1), .int .i64 1000] 3)
    have kA1234a := kA123.alloc (.cells #[.int .i64 0, .int .i64 1, .int .i64 1, .int .i64 2, .int .i64 5, .int .i64 (-1), .int .i64 1000] 3)
    have hcu12s34a := hcu12s3.below ((Below.refl _ _).alloc (Nat.le_refl _) (.cells #[.int .i64 0, .int .i64 1, .int .i64 1, .int .i64 2, .int .i64 5, .int .i64 (-1), .int .i64 1000] 3))
    have ho1234a := ho123.alloc (.cells #[.int .i64 0, .int .i64 1, .int .i64 1, .int .i64 2, .int .i64 5, .int .i64 (-1), .int .i64 1000] 3)
    clear kC123 kA123 hcu12s3 ho123
    go_wp2_with fail
    refine (l01PickInt g _ [0, 1, 1, 2, 5, -1, 1000] _ hcu12s34a HP4.out (by decide) (by intro A n c he ad ha; injection he with e1; subst e1; injection ha with ha; subst ha; simp; omega)).mono ?_
    rintro e z4 ⟨x4, hxx4, rfl, hcu12s34, hoo4⟩
    have hxr4 := ns_mem hxx4
    have kC1234 := (kC1234a.only hoo4 (by simp; omega)).set_ 3 (.int .i64 x4)
    have kC1234o := kC1234a.only hoo4 (by simp; omega)
    have kA1234 := (kA1234a.only hoo4 (by simp; omega)).far (p := ⟨w1.heap.size, 3, none⟩) (by show w.heap.size ≠ w1.heap.size; omega) (.int .i64 x4)
    have hcu12s34s := hcu12s34.setFar (p := ⟨w1.heap.size, 3, none⟩) (by show g < w1.heap.size; omega) (.int .i64 x4)
    have ho1234 := (ho1234a.trans hoo4).setNew (p := ⟨w1.heap.size, 3, none⟩) (by show w.heap.size ≤ w1.heap.size; omega) (.int .i64 x4)
    clear hxx4 hx0 hf0 hx1 hf1 hx2 hf2 hx3 hf3
    obtain ⟨hy4x0, hg4x0⟩ := kC1234o.at_ 0 rfl
    obtain ⟨hy4x1, hg4x1⟩ := kC1234o.at_ 1 rfl
    obtain ⟨hy4x2, hg4x2⟩ := kC1234o.at_ 2 rfl
    obtain ⟨hy4x3, hg4x3⟩ := kC1234o.at_ 3 rfl
    clear kC1234a kA1234a hcu12s34a ho1234a hoo4 hcu12s34 kC1234o
    obtain ⟨he0, hh0⟩ := kC1234.at_ 0 rfl
    obtain ⟨he1, hh1⟩ := kC1234.at_ 1 rfl
    obtain ⟨he2, hh2⟩ := kC1234.at_ 2 rfl
    obtain ⟨he3, hh3⟩ := kC1234.at_ 3 rfl
    obtain ⟨ha0, hb0x⟩ := kA1234.at_ 0 rfl
    obtain ⟨ha1, hb1x⟩ := kA1234.at_ 1 rfl
    obtain ⟨ha2, hb2x⟩ := kA1234.at_ 2 rfl
    obtain ⟨ha3, hb3x⟩ := kA1234.at_ 3 rfl
    go_wp2_with fail
    have kF := (((kA1234.set_ 0 (.int .i64 0)).set_ 1 (.int .i64 x2)).set_ 2 (.int .i64 0)).set_ 3 (.int .i64 x4)
    obtain ⟨hr0, -⟩ := kF.at_ 0 rfl
    obtain ⟨hr1, -⟩ := kF.at_ 1 rfl
    obtain ⟨hr2, -⟩ := kF.at_ 2 rfl
    obtain ⟨hr3, -⟩ := kF.at_ 3 rfl
    exact bodyPost_ret (v := .agg #[.int .i64 0, .int .i64 x2, .int .i64 0, .int .i64 x4]) (by simp [results, Try.results100, go_sem, hr0, hr1, hr2, hr3]) rfl ⟨⟨0, x2, 0, x4⟩, by unfold SmallI; simp only; omega, rfl,
      ((((hcu12s34s.setFar (p := ⟨w.heap.size, 0, none⟩) hg _).setFar (p := ⟨w.heap.size, 1, none⟩) hg _).setFar (p := ⟨w.heap.size, 2, none⟩) hg _).setFar (p := ⟨w.heap.size, 3, none⟩) hg _),
      ((((ho1234.setNew (p := ⟨w.heap.size, 0, none⟩) (Nat.le_refl _) _).setNew (p := ⟨w.heap.size, 1, none⟩) (Nat.le_refl _) _).setNew (p := ⟨w.heap.size, 2, none⟩) (Nat.le_refl _) _).setNew (p := ⟨w.heap.size, 3, none⟩) (Nat.le_refl _) _)⟩
  · clear hop
    have kC := Bk.new w1 #[.int .i64 1, .int .i64 0, .int .i64 0, .int .i64 0] 74
    have kA := kA1.alloc (.cells #[.int .i64 1, .int .i64 0, .int .i64 0, .int .i64 0] 74)
    have hcu := hcu1.below ((Below.refl _ _).alloc (Nat.le_refl _) (.cells #[.int .i64 1, .int .i64 0, .int .i64 0, .int .i64 0] 74))
    have ho := hot1.alloc (.cells #[.int .i64 1, .int .i64 0, .int .i64 0, .int .i64 0] 74)
    clear kA1 hcu1 hot1
    obtain ⟨hx0, hf0⟩ := kC.at_ 0 rfl
    obtain ⟨hx1, hf1⟩ := kC.at_ 1 rfl
    obtain ⟨hx2, hf2⟩ := kC.at_ 2 rfl
    obtain ⟨hx3, hf3⟩ := kC.at_ 3 rfl
    go_wp2_with fail
    refine (l02Named 1 114 _).mono ?_
    rintro e z1 ⟨rfl, hb1⟩
    rw [show namedF 1 114 = true from rfl]
    have kC1 := kC.below hb1 kC.lt
    have kA1 := kA.below hb1 kA.lt
    have hcu1 := hcu.below hb1
    have ho1 := ho.thenBelow hb1 ho.size
    clear hx0 hf0 hx1 hf1 hx2 hf2 hx3 hf3 kC kA hcu ho
    obtain ⟨hx0, hf0⟩ := kC1.at_ 0 rfl
    obtain ⟨hx1, hf1⟩ := kC1.at_ 1 rfl
    obtain ⟨hx2, hf2⟩ := kC1.at_ 2 rfl
    obtain ⟨hx3, hf3⟩ := kC1.at_ 3 rfl
    go_wp2_with fail
    refine (l01Below g 3 _ hcu1 (WalkArith.wf_i64 (by omega))).mono ?_
    rintro e z2 ⟨x2, hxx2, rfl, hcu12, hoo2⟩
    have hxr2 : 0 ≤ x2 ∧ x2 ≤ 2 := by omega
    have kC12 := (kC1.only hoo2 (by simp; omega)).set_ 1 (.int .i64 x2)
    have kC12o := kC1.only hoo2 (by simp; omega)
    have kA12 := (kA1.only hoo2 (by simp; omega)).far (p := ⟨w1.heap.size, 1, none⟩) (by show w.heap.size ≠ w1.heap.size; omega) (.int .i64 x2)
    have hcu12s := hcu12.setFar (p := ⟨w1.heap.size, 1, none⟩) (by show g < w1.heap.size; omega) (.int .i64 x2)
    have ho12 := (ho1.trans hoo2).setNew (p := ⟨w1.heap.size, 1, none⟩) (by show w.heap.size ≤ w1.heap.size; omega) (.int .i64 x2)
    clear hxx2 hx0 hf0 hx1 hf1 hx2 hf2 hx3 hf3
    obtain ⟨hy2x0, hg2x0⟩ := kC12o.at_ 0 rfl
    obtain ⟨hy2x1, hg2x1⟩ := kC12o.at_ 1 rfl
    obtain ⟨hy2x2, hg2x2⟩ := kC12o.at_ 2 rfl
    obtain ⟨hy2x3, hg2x3⟩ := kC12o.at_ 3 rfl
    clear kC1 kA1 hcu1 ho1 hoo2 hcu12 kC12o
    obtain ⟨hx0, hf0⟩ := kC12.at_ 0 rfl
    obtain ⟨hx1, hf1⟩ := kC12.at_ 1 rfl
    obtain ⟨hx2, hf2⟩ := kC12.at_ 2 rfl
    obtain ⟨hx3, hf3⟩ := kC12.at_ 3 rfl
    go_wp2_with fail
    refine (l02Named 1 115 _).mono ?_
    rintro e z3 ⟨rfl, hb3⟩
    rw [show namedF 1 115 = true from rfl]
    have kC123 := kC12.below hb3 kC12.lt
    have kA123 := kA12.below hb3 kA12.lt
    have hcu12s3 := hcu12s.below hb3
    have ho123 := ho12.thenBelow hb3 ho12.size
    clear hx0 hf0 hx1 hf1 hx2 hf2 hx3 hf3 kC12 kA12 hcu12s ho12
    obtain ⟨hx0, hf0⟩ := kC123.at_ 0 rfl
    obtain ⟨hx1, hf1⟩ := kC123.at_ 1 rfl
    obtain ⟨hx2, hf2⟩ := kC123.at_ 2 rfl
    obtain ⟨hx3, hf3⟩ := kC123.at_ 3 rfl
    go_wp2_with fail
    refine (l01Below g 3 _ hcu12s3 (WalkArith.wf_i64 (by omega))).mono ?_
    rintro e z4 ⟨x4, hxx4, rfl, hcu12s34, hoo4⟩
    have hxr4 : 0 ≤ x4 ∧ x4 ≤ 2 := by omega
    have kC1234 := (kC123.only hoo4 (by simp; omega)).set_ 2 (.int .i64 x4)
    have kC1234o := kC123.only hoo4 (by simp; omega)
    have kA1234 := (kA123.only hoo4 (by simp; omega)).far (p := ⟨w1.heap.size, 2, none⟩) (by show w.heap.size ≠ w1.heap.size; omega) (.int .i64 x4)
    have hcu12s34s := hcu12s34.setFar (p := ⟨w1.heap.size, 2, none⟩) (by show g < w1.heap.size; omega) (.int .i64 x4)
    have ho1234 := (ho123.trans hoo4).setNew (p := ⟨w1.heap.size, 2, none⟩) (by show w.heap.size ≤ w1.heap.size; omega) (.int .i64 x4)
    clear hxx4 hx0 hf0 hx1 hf1 hx2 hf2 hx3 hf3
    obtain ⟨hy4x0, hg4x0⟩ := kC1234o.at_ 0 rfl
    obtain ⟨hy4x1, hg4x1⟩ := kC1234o.at_ 1 rfl
    obtain ⟨hy4x2, hg4x2⟩ := kC1234o.at_ 2 rfl
    obtain ⟨hy4x3, hg4x3⟩ := kC1234o.at_ 3 rfl
    clear kC123 kA123 hcu12s3 ho123 hoo4 hcu12s34 kC1234o
    obtain ⟨he0, hh0⟩ := kC1234.at_ 0 rfl
    obtain ⟨he1, hh1⟩ := kC1234.at_ 1 rfl
    obtain ⟨he2, hh2⟩ := kC1234.at_ 2 rfl
    obtain ⟨he3, hh3⟩ := kC1234.at_ 3 rfl
    obtain ⟨ha0, hb0x⟩ := kA1234.at_ 0 rfl
    obtain ⟨ha1, hb1x⟩ := kA1234.at_ 1 rfl
    obtain ⟨ha2, hb2x⟩ := kA1234.at_ 2 rfl
    obtain ⟨ha3, hb3x⟩ := kA1234.at_ 3 rfl
    go_wp2_with fail
    have kF := (((kA1234.set_ 0 (.int .i64 1)).set_ 1 (.int .i64 x2)).set_ 2 (.int .i64 x4)).set_ 3 (.int .i64 0)
    obtain ⟨hr0, -⟩ := kF.at_ 0 rfl
    obtain ⟨hr1, -⟩ := kF.at_ 1 rfl
    obtain ⟨hr2, -⟩ := kF.at_ 2 rfl
    obtain ⟨hr3, -⟩ := kF.at_ 3 rfl
    exact bodyPost_ret (v := .agg #[.int .i64 1, .int .i64 x2, .int .i64 x4, .int .i64 0]) (by simp [results, Try.results100, go_sem, hr0, hr1, hr2, hr3]) rfl ⟨⟨1, x2, x4, 0⟩, by unfold SmallI; simp only; omega, rfl,
      ((((hcu12s34s.setFar (p := ⟨w.heap.size, 0, none⟩) hg _).setFar (p := ⟨w.heap.size, 1, none⟩) hg _).setFar (p := ⟨w.heap.size, 2, none⟩) hg _).setFar (p := ⟨w.heap.size, 3, none⟩) hg _),
      ((((ho1234.setNew (p := ⟨w.heap.size, 0, none⟩) (Nat.le_refl _) _).setNew (p := ⟨w.heap.size, 1, none⟩) (Nat.le_refl _) _).setNew (p := ⟨w.heap.size, 2, none⟩) (Nat.le_refl _) _).setNew (p := ⟨w.heap.size, 3, none⟩) (Nat.le_refl _) _)⟩
  · clear hop
    have kC := Bk.new w1 #[.int .i64 2, .int .i64 0, .int .i64 0, .int .i64 0] 74
    have kA := kA1.alloc (.cells #[.int .i64 2, .int .i64 0, .int .i64 0, .int .i64 0] 74)
    have hcu := hcu1.below ((Below.refl _ _).alloc (Nat.le_refl _) (.cells #[.int .i64 2, .int .i64 0, .int .i64 0, .int .i64 0] 74))
    have ho := hot1.alloc (.cells #[.int .i64 2, .int .i64 0, .int .i64 0, .int .i64 0] 74)
    clear kA1 hcu1 hot1
    obtain ⟨hx0, hf0⟩ := kC.at_ 0 rfl
    obtain ⟨hx1, hf1⟩ := kC.at_ 1 rfl
    obtain ⟨hx2, hf2⟩ := kC.at_ 2 rfl
    obtain ⟨hx3, hf3⟩ := kC.at_ 3 rfl
    go_wp2_with fail
    refine (l02Named 2 114 _).mono ?_
    rintro e z1 ⟨rfl, hb1⟩
    rw [show namedF 2 114 = true from rfl]
    have kC1 := kC.below hb1 kC.lt
    have kA1 := kA.below hb1 kA.lt
    have hcu1 := hcu.below hb1
    have ho1 := ho.thenBelow hb1 ho.size
    clear hx0 hf0 hx1 hf1 hx2 hf2 hx3 hf3 kC kA hcu ho
    obtain ⟨hx0, hf0⟩ := kC1.at_ 0 rfl
    obtain ⟨hx1, hf1⟩ := kC1.at_ 1 rfl
    obtain ⟨hx2, hf2⟩ := kC1.at_ 2 rfl
    obtain ⟨hx3, hf3⟩ := kC1.at_ 3 rfl
    go_wp2_with fail
    refine (l01Below g 3 _ hcu1 (WalkArith.wf_i64 (by omega))).mono ?_
    rintro e z2 ⟨x2, hxx2, rfl, hcu12, hoo2⟩
    have hxr2 : 0 ≤ x2 ∧ x2 ≤ 2 := by omega
    have kC12 := (kC1.only hoo2 (by simp; omega)).set_ 1 (.int .i64 x2)
    have kC12o := kC1.only hoo2 (by simp; omega)
    have kA12 := (kA1.only hoo2 (by simp; omega)).far (p := ⟨w1.heap.size, 1, none⟩) (by show w.heap.size ≠ w1.heap.size; omega) (.int .i64 x2)
    have hcu12s := hcu12.setFar (p := ⟨w1.heap.size, 1, none⟩) (by show g < w1.heap.size; omega) (.int .i64 x2)
    have ho12 := (ho1.trans hoo2).setNew (p := ⟨w1.heap.size, 1, none⟩) (by show w.heap.size ≤ w1.heap.size; omega) (.int .i64 x2)
    clear hxx2 hx0 hf0 hx1 hf1 hx2 hf2 hx3 hf3
    obtain ⟨hy2x0, hg2x0⟩ := kC12o.at_ 0 rfl
    obtain ⟨hy2x1, hg2x1⟩ := kC12o.at_ 1 rfl
    obtain ⟨hy2x2, hg2x2⟩ := kC12o.at_ 2 rfl
    obtain ⟨hy2x3, hg2x3⟩ := kC12o.at_ 3 rfl
    clear kC1 kA1 hcu1 ho1 hoo2 hcu12 kC12o
    obtain ⟨hx0, hf0⟩ := kC12.at_ 0 rfl
    obtain ⟨hx1, hf1⟩ := kC12.at_ 1 rfl
    obtain ⟨hx2, hf2⟩ := kC12.at_ 2 rfl
    obtain ⟨hx3, hf3⟩ := kC12.at_ 3 rfl
    go_wp2_with fail
    refine (l02Named 2 115 _).mono ?_
    rintro e z3 ⟨rfl, hb3⟩
    rw [show namedF 2 115 = false from rfl]
    have kC123 := kC12.below hb3 kC12.lt
    have kA123 := kA12.below hb3 kA12.lt
    have hcu12s3 := hcu12s.below hb3
    have ho123 := ho12.thenBelow hb3 ho12.size
    clear hx0 hf0 hx1 hf1 hx2 hf2 hx3 hf3 kC12 kA12 hcu12s ho12
    obtain ⟨hx0, hf0⟩ := kC123.at_ 0 rfl
    obtain ⟨hx1, hf1⟩ := kC123.at_ 1 rfl
    obtain ⟨hx2, hf2⟩ := kC123.at_ 2 rfl
    obtain ⟨hx3, hf3⟩ := kC123.at_ 3 rfl
    go_wp2_with fail
    refine (l01Below g cells _ hcu12s3 (WalkArith.wf_i64 (by omega))).mono ?_
    rintro e z4 ⟨x4, hxx4, rfl, hcu12s34, hoo4⟩
    have hxr4 : -1 ≤ x4 ∧ x4 ≤ 1000 := by omega
    have kC1234 := (kC123.only hoo4 (by simp; omega)).set_ 3 (.int .i64 x4)
    have kC1234o := kC123.only hoo4 (by simp; omega)
    have kA1234 := (kA123.only hoo4 (by simp; omega)).far (p := ⟨w1.heap.size, 3, none⟩) (by show w.heap.size ≠ w1.heap.size; omega) (.int .i64 x4)
    have hcu12s34s := hcu12s34.setFar (p := ⟨w1.heap.size, 3, none⟩) (by show g < w1.heap.size; omega) (.int .i64 x4)
    have ho1234 := (ho123.trans hoo4).setNew (p := ⟨w1.heap.size, 3, none⟩) (by show w.heap.size ≤ w1.heap.size; omega) (.int .i64 x4)
    clear hxx4 hx0 hf0 hx1 hf1 hx2 hf2 hx3 hf3
    obtain ⟨hy4x0, hg4x0⟩ := kC1234o.at_ 0 rfl
    obtain ⟨hy4x1, hg4x1⟩ := kC1234o.at_ 1 rfl
    obtain ⟨hy4x2, hg4x2⟩ := kC1234o.at_ 2 rfl
    obtain ⟨hy4x3, hg4x3⟩ := kC1234o.at_ 3 rfl
    clear kC123 kA123 hcu12s3 ho123 hoo4 hcu12s34 kC1234o
    obtain ⟨he0, hh0⟩ := kC1234.at_ 0 rfl
    obtain ⟨he1, hh1⟩ := kC1234.at_ 1 rfl
    obtain ⟨he2, hh2⟩ := kC1234.at_ 2 rfl
    obtain ⟨he3, hh3⟩ := kC1234.at_ 3 rfl
    obtain ⟨ha0, hb0x⟩ := kA1234.at_ 0 rfl
    obtain ⟨ha1, hb1x⟩ := kA1234.at_ 1 rfl
    obtain ⟨ha2, hb2x⟩ := kA1234.at_ 2 rfl
    obtain ⟨ha3, hb3x⟩ := kA1234.at_ 3 rfl
    go_wp2_with fail
    have kF := (((kA1234.set_ 0 (.int .i64 2)).set_ 1 (.int .i64 x2)).set_ 2 (.int .i64 0)).set_ 3 (.int .i64 x4)
    obtain ⟨hr0, -⟩ := kF.at_ 0 rfl
    obtain ⟨hr1, -⟩ := kF.at_ 1 rfl
    obtain ⟨hr2, -⟩ := kF.at_ 2 rfl
    obtain ⟨hr3, -⟩ := kF.at_ 3 rfl
    exact bodyPost_ret (v := .agg #[.int .i64 2, .int .i64 x2, .int .i64 0, .int .i64 x4]) (by simp [results, Try.results100, go_sem, hr0, hr1, hr2, hr3]) rfl ⟨⟨2, x2, 0, x4⟩, by unfold SmallI; simp only; omega, rfl,
      ((((hcu12s34s.setFar (p := ⟨w.heap.size, 0, none⟩) hg _).setFar (p := ⟨w.heap.size, 1, none⟩) hg _).setFar (p := ⟨w.heap.size, 2, none⟩) hg _).setFar (p := ⟨w.heap.size, 3, none⟩) hg _),
      ((((ho1234.setNew (p := ⟨w.heap.size, 0, none⟩) (Nat.le_refl _) _).setNew (p := ⟨w.heap.size, 1, none⟩) (Nat.le_refl _) _).setNew (p := ⟨w.heap.size, 2, none⟩) (Nat.le_refl _) _).setNew (p := ⟨w.heap.size, 3, none⟩) (Nat.le_refl _) _)⟩
  · clear hop
    have kC := Bk.new w1 #[.int .i64 3, .int .i64 0, .int .i64 0, .int .i64 0] 74
    have kA := kA1.alloc (.cells #[.int .i64 3, .int .i64 0, .int .i64 0, .int .i64 0] 74)
    have hcu := hcu1.below ((Below.refl _ _).alloc (Nat.le_refl _) (.cells #[.int .i64 3, .int .i64 0, .int .i64 0, .int .i64 0] 74))
    have ho := hot1.alloc (.cells #[.int .i64 3, .int .i64 0, .int .i64 0, .int .i64 0] 74)
    clear kA1 hcu1 hot1
    obtain ⟨hx0, hf0⟩ := kC.at_ 0 rfl
    obtain ⟨hx1, hf1⟩ := kC.at_ 1 rfl
    obtain ⟨hx2, hf2⟩ := kC.at_ 2 rfl
    obtain ⟨hx3, hf3⟩ := kC.at_ 3 rfl
    go_wp2_with fail
    refine (l02Named 3 114 _).mono ?_
    rintro e z1 ⟨rfl, hb1⟩
    rw [show namedF 3 114 = true from rfl]
    have kC1 := kC.below hb1 kC.lt
    have kA1 := kA.below hb1 kA.lt
    have hcu1 := hcu.below hb1
    have ho1 := ho.thenBelow hb1 ho.size
    clear hx0 hf0 hx1 hf1 hx2 hf2 hx3 hf3 kC kA hcu ho
    obtain ⟨hx0, hf0⟩ := kC1.at_ 0 rfl
    obtain ⟨hx1, hf1⟩ := kC1.at_ 1 rfl
    obtain ⟨hx2, hf2⟩ := kC1.at_ 2 rfl
    obtain ⟨hx3, hf3⟩ := kC1.at_ 3 rfl
    go_wp2_with fail
    refine (l01Below g 3 _ hcu1 (WalkArith.wf_i64 (by omega))).mono ?_
    rintro e z2 ⟨x2, hxx2, rfl, hcu12, hoo2⟩
    have hxr2 : 0 ≤ x2 ∧ x2 ≤ 2 := by omega
    have kC12 := (kC1.only hoo2 (by simp; omega)).set_ 1 (.int .i64 x2)
    have kC12o := kC1.only hoo2 (by simp; omega)
    have kA12 := (kA1.only hoo2 (by simp; omega)).far (p := ⟨w1.heap.size, 1, none⟩) (by show w.heap.size ≠ w1.heap.size; omega) (.int .i64 x2)
    have hcu12s := hcu12.setFar (p := ⟨w1.heap.size, 1, none⟩) (by show g < w1.heap.size; omega) (.int .i64 x2)
    have ho12 := (ho1.trans hoo2).setNew (p := ⟨w1.heap.size, 1, none⟩) (by show w.heap.size ≤ w1.heap.size; omega) (.int .i64 x2)
    clear hxx2 hx0 hf0 hx1 hf1 hx2 hf2 hx3 hf3
    obtain ⟨hy2x0, hg2x0⟩ := kC12o.at_ 0 rfl
    obtain ⟨hy2x1, hg2x1⟩ := kC12o.at_ 1 rfl
    obtain ⟨hy2x2, hg2x2⟩ := kC12o.at_ 2 rfl
    obtain ⟨hy2x3, hg2x3⟩ := kC12o.at_ 3 rfl
    clear kC1 kA1 hcu1 ho1 hoo2 hcu12 kC12o
    obtain ⟨hx0, hf0⟩ := kC12.at_ 0 rfl
    obtain ⟨hx1, hf1⟩ := kC12.at_ 1 rfl
    obtain ⟨hx2, hf2⟩ := kC12.at_ 2 rfl
    obtain ⟨hx3, hf3⟩ := kC12.at_ 3 rfl
    go_wp2_with fail
    refine (l02Named 3 115 _).mono ?_
    rintro e z3 ⟨rfl, hb3⟩
    rw [show namedF 3 115 = false from rfl]
    have kC123 := kC12.below hb3 kC12.lt
    have kA123 := kA12.below hb3 kA12.lt
    have hcu12s3 := hcu12s.below hb3
    have ho123 := ho12.thenBelow hb3 ho12.size
    clear hx0 hf0 hx1 hf1 hx2 hf2 hx3 hf3 kC12 kA12 hcu12s ho12
    obtain ⟨hx0, hf0⟩ := kC123.at_ 0 rfl
    obtain ⟨hx1, hf1⟩ := kC123.at_ 1 rfl
    obtain ⟨hx2, hf2⟩ := kC123.at_ 2 rfl
    obtain ⟨hx3, hf3⟩ := kC123.at_ 3 rfl
    go_wp2_with fail
    refine (l01Below g cells _ hcu12s3 (WalkArith.wf_i64 (by omega))).mono ?_
    rintro e z4 ⟨x4, hxx4, rfl, hcu12s34, hoo4⟩
    have hxr4 : -1 ≤ x4 ∧ x4 ≤ 1000 := by omega
    have kC1234 := (kC123.only hoo4 (by simp; omega)).set_ 3 (.int .i64 x4)
    have kC1234o := kC123.only hoo4 (by simp; omega)
    have kA1234 := (kA123.only hoo4 (by simp; omega)).far (p := ⟨w1.heap.size, 3, none⟩) (by show w.heap.size ≠ w1.heap.size; omega) (.int .i64 x4)
    have hcu12s34s := hcu12s34.setFar (p := ⟨w1.heap.size, 3, none⟩) (by show g < w1.heap.size; omega) (.int .i64 x4)
    have ho1234 := (ho123.trans hoo4).setNew (p := ⟨w1.heap.size, 3, none⟩) (by show w.heap.size ≤ w1.heap.size; omega) (.int .i64 x4)
    clear hxx4 hx0 hf0 hx1 hf1 hx2 hf2 hx3 hf3
    obtain ⟨hy4x0, hg4x0⟩ := kC1234o.at_ 0 rfl
    obtain ⟨hy4x1, hg4x1⟩ := kC1234o.at_ 1 rfl
    obtain ⟨hy4x2, hg4x2⟩ := kC1234o.at_ 2 rfl
    obtain ⟨hy4x3, hg4x3⟩ := kC1234o.at_ 3 rfl
    clear kC123 kA123 hcu12s3 ho123 hoo4 hcu12s34 kC1234o
    obtain ⟨he0, hh0⟩ := kC1234.at_ 0 rfl
    obtain ⟨he1, hh1⟩ := kC1234.at_ 1 rfl
    obtain ⟨he2, hh2⟩ := kC1234.at_ 2 rfl
    obtain ⟨he3, hh3⟩ := kC1234.at_ 3 rfl
    obtain ⟨ha0, hb0x⟩ := kA1234.at_ 0 rfl
    obtain ⟨ha1, hb1x⟩ := kA1234.at_ 1 rfl
    obtain ⟨ha2, hb2x⟩ := kA1234.at_ 2 rfl
    obtain ⟨ha3, hb3x⟩ := kA1234.at_ 3 rfl
    go_wp2_with fail
    have kF := (((kA1234.set_ 0 (.int .i64 3)).set_ 1 (.int .i64 x2)).set_ 2 (.int .i64 0)).set_ 3 (.int .i64 x4)
    obtain ⟨hr0, -⟩ := kF.at_ 0 rfl
    obtain ⟨hr1, -⟩ := kF.at_ 1 rfl
    obtain ⟨hr2, -⟩ := kF.at_ 2 rfl
    obtain ⟨hr3, -⟩ := kF.at_ 3 rfl
    exact bodyPost_ret (v := .agg #[.int .i64 3, .int .i64 x2, .int .i64 0, .int .i64 x4]) (by simp [results, Try.results100, go_sem, hr0, hr1, hr2, hr3]) rfl ⟨⟨3, x2, 0, x4⟩, by unfold SmallI; simp only; omega, rfl,
      ((((hcu12s34s.setFar (p := ⟨w.heap.size, 0, none⟩) hg _).setFar (p := ⟨w.heap.size, 1, none⟩) hg _).setFar (p := ⟨w.heap.size, 2, none⟩) hg _).setFar (p := ⟨w.heap.size, 3, none⟩) hg _),
      ((((ho1234.setNew (p := ⟨w.heap.size, 0, none⟩) (Nat.le_refl _) _).setNew (p := ⟨w.heap.size, 1, none⟩) (Nat.le_refl _) _).setNew (p := ⟨w.heap.size, 2, none⟩) (Nat.le_refl _) _).setNew (p := ⟨w.heap.size, 3, none⟩) (Nat.le_refl _) _)⟩
  · clear hop
    have kC := Bk.new w1 #[.int .i64 4, .int .i64 0, .int .i64 0, .int .i64 0] 74
    have kA := kA1.alloc (.cells #[.int .i64 4, .int .i64 0, .int .i64 0, .int .i64 0] 74)
    have hcu := hcu1.below ((Below.refl _ _).alloc (Nat.le_refl _) (.cells #[.int .i64 4, .int .i64 0, .int .i64 0, .int .i64 0] 74))
    have ho := hot1.alloc (.cells #[.int .i64 4, .int .i64 0, .int .i64 0, .int .i64 0] 74)
    clear kA1 hcu1 hot1
    obtain ⟨hx0, hf0⟩ := kC.at_ 0 rfl
    obtain ⟨hx1, hf1⟩ := kC.at_ 1 rfl
    obtain ⟨hx2, hf2⟩ := kC.at_ 2 rfl
    obtain ⟨hx3, hf3⟩ := kC.at_ 3 rfl
    go_wp2_with fail
    refine (l02Named 4 114 _).mono ?_
    rintro e z1 ⟨rfl, hb1⟩
    rw [show namedF 4 114 = false from rfl]
    have kC1 := kC.below hb1 kC.lt
    have kA1 := kA.below hb1 kA.lt
    have hcu1 := hcu.below hb1
    have ho1 := ho.thenBelow hb1 ho.size
    clear hx0 hf0 hx1 hf1 hx2 hf2 hx3 hf3 kC kA hcu ho
    obtain ⟨hx0, hf0⟩ := kC1.at_ 0 rfl
    obtain ⟨hx1, hf1⟩ := kC1.at_ 1 rfl
    obtain ⟨hx2, hf2⟩ := kC1.at_ 2 rfl
    obtain ⟨hx3, hf3⟩ := kC1.at_ 3 rfl
    go_wp2_with fail
    refine (l02Named 4 115 _).mono ?_
    rintro e z2 ⟨rfl, hb2⟩
    rw [show namedF 4 115 = false from rfl]
    have kC12 := kC1.below hb2 kC1.lt
    have kA12 := kA1.below hb2 kA1.lt
    have hcu12 := hcu1.below hb2
    have ho12 := ho1.thenBelow hb2 ho1.size
    clear hx0 hf0 hx1 hf1 hx2 hf2 hx3 hf3 kC1 kA1 hcu1 ho1
    obtain ⟨he0, hh0⟩ := kC12.at_ 0 rfl
    obtain ⟨he1, hh1⟩ := kC12.at_ 1 rfl
    obtain ⟨he2, hh2⟩ := kC12.at_ 2 rfl
    obtain ⟨he3, hh3⟩ := kC12.at_ 3 rfl
    obtain ⟨ha0, hb0x⟩ := kA12.at_ 0 rfl
    obtain ⟨ha1, hb1x⟩ := kA12.at_ 1 rfl
    obtain ⟨ha2, hb2x⟩ := kA12.at_ 2 rfl
    obtain ⟨ha3, hb3x⟩ := kA12.at_ 3 rfl
    go_wp2_with fail
    have kF := (((kA12.set_ 0 (.int .i64 4)).set_ 1 (.int .i64 0)).set_ 2 (.int .i64 0)).set_ 3 (.int .i64 0)
    obtain ⟨hr0, -⟩ := kF.at_ 0 rfl
    obtain ⟨hr1, -⟩ := kF.at_ 1 rfl
    obtain ⟨hr2, -⟩ := kF.at_ 2 rfl
    obtain ⟨hr3, -⟩ := kF.at_ 3 rfl
    exact bodyPost_ret (v := .agg #[.int .i64 4, .int .i64 0, .int .i64 0, .int .i64 0]) (by simp [results, Try.results100, go_sem, hr0, hr1, hr2, hr3]) rfl ⟨⟨4, 0, 0, 0⟩, by unfold SmallI; simp only; omega, rfl,
      ((((hcu12.setFar (p := ⟨w.heap.size, 0, none⟩) hg _).setFar (p := ⟨w.heap.size, 1, none⟩) hg _).setFar (p := ⟨w.heap.size, 2, none⟩) hg _).setFar (p := ⟨w.heap.size, 3, none⟩) hg _),
      ((((ho12.setNew (p := ⟨w.heap.size, 0, none⟩) (Nat.le_refl _) _).setNew (p := ⟨w.heap.size, 1, none⟩) (Nat.le_refl _) _).setNew (p := ⟨w.heap.size, 2, none⟩) (Nat.le_refl _) _).setNew (p := ⟨w.heap.size, 3, none⟩) (Nat.le_refl _) _)⟩
  · clear hop
    have kC := Bk.new w1 #[.int .i64 5, .int .i64 0, .int .i64 0, .int .i64 0] 74
    have kA := kA1.alloc (.cells #[.int .i64 5, .int .i64 0, .int .i64 0, .int .i64 0] 74)
    have hcu := hcu1.below ((Below.refl _ _).alloc (Nat.le_refl _) (.cells #[.int .i64 5, .int .i64 0, .int .i64 0, .int .i64 0] 74))
    have ho := hot1.alloc (.cells #[.int .i64 5, .int .i64 0, .int .i64 0, .int .i64 0] 74)
    clear kA1 hcu1 hot1
    obtain ⟨hx0, hf0⟩ := kC.at_ 0 rfl
    obtain ⟨hx1, hf1⟩ := kC.at_ 1 rfl
    obtain ⟨hx2, hf2⟩ := kC.at_ 2 rfl
    obtain ⟨hx3, hf3⟩ := kC.at_ 3 rfl
    go_wp2_with fail
    refine (l02Named 5 114 _).mono ?_
    rintro e z1 ⟨rfl, hb1⟩
    rw [show namedF 5 114 = true from rfl]
    have kC1 := kC.below hb1 kC.lt
    have kA1 := kA.below hb1 kA.lt
    have hcu1 := hcu.below hb1
    have ho1 := ho.thenBelow hb1 ho.size
    clear hx0 hf0 hx1 hf1 hx2 hf2 hx3 hf3 kC kA hcu ho
    obtain ⟨hx0, hf0⟩ := kC1.at_ 0 rfl
    obtain ⟨hx1, hf1⟩ := kC1.at_ 1 rfl
    obtain ⟨hx2, hf2⟩ := kC1.at_ 2 rfl
    obtain ⟨hx3, hf3⟩ := kC1.at_ 3 rfl
    go_wp2_with fail
    refine (l01Below g 3 _ hcu1 (WalkArith.wf_i64 (by omega))).mono ?_
    rintro e z2 ⟨x2, hxx2, rfl, hcu12, hoo2⟩
    have hxr2 : 0 ≤ x2 ∧ x2 ≤ 2 := by omega
    have kC12 := (kC1.only hoo2 (by simp; omega)).set_ 1 (.int .i64 x2)
    have kC12o := kC1.only hoo2 (by simp; omega)
    have kA12 := (kA1.only hoo2 (by simp; omega)).far (p := ⟨w1.heap.size, 1, none⟩) (by show w.heap.size ≠ w1.heap.size; omega) (.int .i64 x2)
    have hcu12s := hcu12.setFar (p := ⟨w1.heap.size, 1, none⟩) (by show g < w1.heap.size; omega) (.int .i64 x2)
    have ho12 := (ho1.trans hoo2).setNew (p := ⟨w1.heap.size, 1, none⟩) (by show w.heap.size ≤ w1.heap.size; omega) (.int .i64 x2)
    clear hxx2 hx0 hf0 hx1 hf1 hx2 hf2 hx3 hf3
    obtain ⟨hy2x0, hg2x0⟩ := kC12o.at_ 0 rfl
    obtain ⟨hy2x1, hg2x1⟩ := kC12o.at_ 1 rfl
    obtain ⟨hy2x2, hg2x2⟩ := kC12o.at_ 2 rfl
    obtain ⟨hy2x3, hg2x3⟩ := kC12o.at_ 3 rfl
    clear kC1 kA1 hcu1 ho1 hoo2 hcu12 kC12o
    obtain ⟨hx0, hf0⟩ := kC12.at_ 0 rfl
    obtain ⟨hx1, hf1⟩ := kC12.at_ 1 rfl
    obtain ⟨hx2, hf2⟩ := kC12.at_ 2 rfl
    obtain ⟨hx3, hf3⟩ := kC12.at_ 3 rfl
    go_wp2_with fail
    refine (l02Named 5 115 _).mono ?_
    rintro e z3 ⟨rfl, hb3⟩
    rw [show namedF 5 115 = true from rfl]
    have kC123 := kC12.below hb3 kC12.lt
    have kA123 := kA12.below hb3 kA12.lt
    have hcu12s3 := hcu12s.below hb3
    have ho123 := ho12.thenBelow hb3 ho12.size
    clear hx0 hf0 hx1 hf1 hx2 hf2 hx3 hf3 kC12 kA12 hcu12s ho12
    obtain ⟨hx0, hf0⟩ := kC123.at_ 0 rfl
    obtain ⟨hx1, hf1⟩ := kC123.at_ 1 rfl
    obtain ⟨hx2, hf2⟩ := kC123.at_ 2 rfl
    obtain ⟨hx3, hf3⟩ := kC123.at_ 3 rfl
    go_wp2_with fail
    refine (l01Below g 3 _ hcu12s3 (WalkArith.wf_i64 (by omega))).mono ?_
    rintro e z4 ⟨x4, hxx4, rfl, hcu12s34, hoo4⟩
    have hxr4 : 0 ≤ x4 ∧ x4 ≤ 2 := by omega
    have kC1234 := (kC123.only hoo4 (by simp; omega)).set_ 2 (.int .i64 x4)
    have kC1234o := kC123.only hoo4 (by simp; omega)
    have kA1234 := (kA123.only hoo4 (by simp; omega)).far (p := ⟨w1.heap.size, 2, none⟩) (by show w.heap.size ≠ w1.heap.size; omega) (.int .i64 x4)
    have hcu12s34s := hcu12s34.setFar (p := ⟨w1.heap.size, 2, none⟩) (by show g < w1.heap.size; omega) (.int .i64 x4)
    have ho1234 := (ho123.trans hoo4).setNew (p := ⟨w1.heap.size, 2, none⟩) (by show w.heap.size ≤ w1.heap.size; omega) (.int .i64 x4)
    clear hxx4 hx0 hf0 hx1 hf1 hx2 hf2 hx3 hf3
    obtain ⟨hy4x0, hg4x0⟩ := kC1234o.at_ 0 rfl
    obtain ⟨hy4x1, hg4x1⟩ := kC1234o.at_ 1 rfl
    obtain ⟨hy4x2, hg4x2⟩ := kC1234o.at_ 2 rfl
    obtain ⟨hy4x3, hg4x3⟩ := kC1234o.at_ 3 rfl
    clear kC123 kA123 hcu12s3 ho123 hoo4 hcu12s34 kC1234o
    obtain ⟨hx0, hf0⟩ := kC1234.at_ 0 rfl
    obtain ⟨hx1, hf1⟩ := kC1234.at_ 1 rfl
    obtain ⟨hx2, hf2⟩ := kC1234.at_ 2 rfl
    obtain ⟨hx3, hf3⟩ := kC1234.at_ 3 rfl
    go_wp2_with fail
    refine (l01Below g cells _ hcu12s34s (WalkArith.wf_i64 (by omega))).mono ?_
    rintro e z5 ⟨x5, hxx5, rfl, hcu12s34s5, hoo5⟩
    have hxr5 : -1 ≤ x5 ∧ x5 ≤ 1000 := by omega
    have kC12345 := (kC1234.only hoo5 (by simp; omega)).set_ 3 (.int .i64 x5)
    have kC12345o := kC1234.only hoo5 (by simp; omega)
    have kA12345 := (kA1234.only hoo5 (by simp; omega)).far (p := ⟨w1.heap.size, 3, none⟩) (by show w.heap.size ≠ w1.heap.size; omega) (.int .i64 x5)
    have hcu12s34s5s := hcu12s34s5.setFar (p := ⟨w1.heap.size, 3, none⟩) (by show g < w1.heap.size; omega) (.int .i64 x5)
    have ho12345 := (ho1234.trans hoo5).setNew (p := ⟨w1.heap.size, 3, none⟩) (by show w.heap.size ≤ w1.heap.size; omega) (.int .i64 x5)
    clear hxx5 hx0 hf0 hx1 hf1 hx2 hf2 hx3 hf3
    obtain ⟨hy5x0, hg5x0⟩ := kC12345o.at_ 0 rfl
    obtain ⟨hy5x1, hg5x1⟩ := kC12345o.at_ 1 rfl
    obtain ⟨hy5x2, hg5x2⟩ := kC12345o.at_ 2 rfl
    obtain ⟨hy5x3, hg5x3⟩ := kC12345o.at_ 3 rfl
    clear kC1234 kA1234 hcu12s34s ho1234 hoo5 hcu12s34s5 kC12345o
    obtain ⟨he0, hh0⟩ := kC12345.at_ 0 rfl
    obtain ⟨he1, hh1⟩ := kC12345.at_ 1 rfl
    obtain ⟨he2, hh2⟩ := kC12345.at_ 2 rfl
    obtain ⟨he3, hh3⟩ := kC12345.at_ 3 rfl
    obtain ⟨ha0, hb0x⟩ := kA12345.at_ 0 rfl
    obtain ⟨ha1, hb1x⟩ := kA12345.at_ 1 rfl
    obtain ⟨ha2, hb2x⟩ := kA12345.at_ 2 rfl
    obtain ⟨ha3, hb3x⟩ := kA12345.at_ 3 rfl
    go_wp2_with fail
    have kF := (((kA12345.set_ 0 (.int .i64 5)).set_ 1 (.int .i64 x2)).set_ 2 (.int .i64 x4)).set_ 3 (.int .i64 x5)
    obtain ⟨hr0, -⟩ := kF.at_ 0 rfl
    obtain ⟨hr1, -⟩ := kF.at_ 1 rfl
    obtain ⟨hr2, -⟩ := kF.at_ 2 rfl
    obtain ⟨hr3, -⟩ := kF.at_ 3 rfl
    exact bodyPost_ret (v := .agg #[.int .i64 5, .int .i64 x2, .int .i64 x4, .int .i64 x5]) (by simp [results, Try.results100, go_sem, hr0, hr1, hr2, hr3]) rfl ⟨⟨5, x2, x4, x5⟩, by unfold SmallI; simp only; omega, rfl,
      ((((hcu12s34s5s.setFar (p := ⟨w.heap.size, 0, none⟩) hg _).setFar (p := ⟨w.heap.size, 1, none⟩) hg _).setFar (p := ⟨w.heap.size, 2, none⟩) hg _).setFar (p := ⟨w.heap.size, 3, none⟩) hg _),
      ((((ho12345.setNew (p := ⟨w.heap.size, 0, none⟩) (Nat.le_refl _) _).setNew (p := ⟨w.heap.size, 1, none⟩) (Nat.le_refl _) _).setNew (p := ⟨w.heap.size, 2, none⟩) (Nat.le_refl _) _).setNew (p := ⟨w.heap.size, 3, none⟩) (Nat.le_refl _) _)⟩
  · clear hop
    have kC := Bk.new w1 #[.int .i64 6, .int .i64 0, .int .i64 0, .int .i64 0] 74
    have kA := kA1.alloc (.cells #[.int .i64 6, .int .i64 0, .int .i64 0, .int .i64 0] 74)
    have hcu := hcu1.below ((Below.refl _ _).alloc (Nat.le_refl _) (.cells #[.int .i64 6, .int .i64 0, .int .i64 0, .int .i64 0] 74))
    have ho := hot1.alloc (.cells #[.int .i64 6, .int .i64 0, .int .i64 0, .int .i64 0] 74)
    clear kA1 hcu1 hot1
    obtain ⟨hx0, hf0⟩ := kC.at_ 0 rfl
    obtain ⟨hx1, hf1⟩ := kC.at_ 1 rfl
    obtain ⟨hx2, hf2⟩ := kC.at_ 2 rfl
    obtain ⟨hx3, hf3⟩ := kC.at_ 3 rfl
    go_wp2_with fail
    refine (l02Named 6 114 _).mono ?_
    rintro e z1 ⟨rfl, hb1⟩
    rw [show namedF 6 114 = true from rfl]
    have kC1 := kC.below hb1 kC.lt
    have kA1 := kA.below hb1 kA.lt
    have hcu1 := hcu.below hb1
    have ho1 := ho.thenBelow hb1 ho.size
    clear hx0 hf0 hx1 hf1 hx2 hf2 hx3 hf3 kC kA hcu ho
    obtain ⟨hx0, hf0⟩ := kC1.at_ 0 rfl
    obtain ⟨hx1, hf1⟩ := kC1.at_ 1 rfl
    obtain ⟨hx2, hf2⟩ := kC1.at_ 2 rfl
    obtain ⟨hx3, hf3⟩ := kC1.at_ 3 rfl
    go_wp2_with fail
    refine (l01Below g 3 _ hcu1 (WalkArith.wf_i64 (by omega))).mono ?_
    rintro e z2 ⟨x2, hxx2, rfl, hcu12, hoo2⟩
    have hxr2 : 0 ≤ x2 ∧ x2 ≤ 2 := by omega
    have kC12 := (kC1.only hoo2 (by simp; omega)).set_ 1 (.int .i64 x2)
    have kC12o := kC1.only hoo2 (by simp; omega)
    have kA12 := (kA1.only hoo2 (by simp; omega)).far (p := ⟨w1.heap.size, 1, none⟩) (by show w.heap.size ≠ w1.heap.size; omega) (.int .i64 x2)
    have hcu12s := hcu12.setFar (p := ⟨w1.heap.size, 1, none⟩) (by show g < w1.heap.size; omega) (.int .i64 x2)
    have ho12 := (ho1.trans hoo2).setNew (p := ⟨w1.heap.size, 1, none⟩) (by show w.heap.size ≤ w1.heap.size; omega) (.int .i64 x2)
    clear hxx2 hx0 hf0 hx1 hf1 hx2 hf2 hx3 hf3
    obtain ⟨hy2x0, hg2x0⟩ := kC12o.at_ 0 rfl
    obtain ⟨hy2x1, hg2x1⟩ := kC12o.at_ 1 rfl
    obtain ⟨hy2x2, hg2x2⟩ := kC12o.at_ 2 rfl
    obtain ⟨hy2x3, hg2x3⟩ := kC12o.at_ 3 rfl
    clear kC1 kA1 hcu1 ho1 hoo2 hcu12 kC12o
    obtain ⟨hx0, hf0⟩ := kC12.at_ 0 rfl
    obtain ⟨hx1, hf1⟩ := kC12.at_ 1 rfl
    obtain ⟨hx2, hf2⟩ := kC12.at_ 2 rfl
    obtain ⟨hx3, hf3⟩ := kC12.at_ 3 rfl
    go_wp2_with fail
    refine (l02Named 6 115 _).mono ?_
    rintro e z3 ⟨rfl, hb3⟩
    rw [show namedF 6 115 = false from rfl]
    have kC123 := kC12.below hb3 kC12.lt
    have kA123 := kA12.below hb3 kA12.lt
    have hcu12s3 := hcu12s.below hb3
    have ho123 := ho12.thenBelow hb3 ho12.size
    clear hx0 hf0 hx1 hf1 hx2 hf2 hx3 hf3 kC12 kA12 hcu12s ho12
    obtain ⟨hx0, hf0⟩ := kC123.at_ 0 rfl
    obtain ⟨hx1, hf1⟩ := kC123.at_ 1 rfl
    obtain ⟨hx2, hf2⟩ := kC123.at_ 2 rfl
    obtain ⟨hx3, hf3⟩ := kC123.at_ 3 rfl
    go_wp2_with fail
    refine (l01Below g (size + 1) _ hcu12s3 (WalkArith.wf_i64 (by omega))).mono ?_
    rintro e z4 ⟨x4, hxx4, rfl, hcu12s34, hoo4⟩
    have hxr4 : -1 ≤ x4 ∧ x4 ≤ 1000 := by omega
    have kC1234 := (kC123.only hoo4 (by simp; omega)).set_ 3 (.int .i64 x4)
    have kC1234o := kC123.only hoo4 (by simp; omega)
    have kA1234 := (kA123.only hoo4 (by simp; omega)).far (p := ⟨w1.heap.size, 3, none⟩) (by show w.heap.size ≠ w1.heap.size; omega) (.int .i64 x4)
    have hcu12s34s := hcu12s34.setFar (p := ⟨w1.heap.size, 3, none⟩) (by show g < w1.heap.size; omega) (.int .i64 x4)
    have ho1234 := (ho123.trans hoo4).setNew (p := ⟨w1.heap.size, 3, none⟩) (by show w.heap.size ≤ w1.heap.size; omega) (.int .i64 x4)
    clear hxx4 hx0 hf0 hx1 hf1 hx2 hf2 hx3 hf3
    obtain ⟨hy4x0, hg4x0⟩ := kC1234o.at_ 0 rfl
    obtain ⟨hy4x1, hg4x1⟩ := kC1234o.at_ 1 rfl
    obtain ⟨hy4x2, hg4x2⟩ := kC1234o.at_ 2 rfl
    obtain ⟨hy4x3, hg4x3⟩ := kC1234o.at_ 3 rfl
    clear kC123 kA123 hcu12s3 ho123 hoo4 hcu12s34 kC1234o
    obtain ⟨he0, hh0⟩ := kC1234.at_ 0 rfl
    obtain ⟨he1, hh1⟩ := kC1234.at_ 1 rfl
    obtain ⟨he2, hh2⟩ := kC1234.at_ 2 rfl
    obtain ⟨he3, hh3⟩ := kC1234.at_ 3 rfl
    obtain ⟨ha0, hb0x⟩ := kA1234.at_ 0 rfl
    obtain ⟨ha1, hb1x⟩ := kA1234.at_ 1 rfl
    obtain ⟨ha2, hb2x⟩ := kA1234.at_ 2 rfl
    obtain ⟨ha3, hb3x⟩ := kA1234.at_ 3 rfl
    go_wp2_with fail
    have kF := (((kA1234.set_ 0 (.int .i64 6)).set_ 1 (.int .i64 x2)).set_ 2 (.int .i64 0)).set_ 3 (.int .i64 x4)
    obtain ⟨hr0, -⟩ := kF.at_ 0 rfl
    obtain ⟨hr1, -⟩ := kF.at_ 1 rfl
    obtain ⟨hr2, -⟩ := kF.at_ 2 rfl
    obtain ⟨hr3, -⟩ := kF.at_ 3 rfl
    exact bodyPost_ret (v := .agg #[.int .i64 6, .int .i64 x2, .int .i64 0, .int .i64 x4]) (by simp [results, Try.results100, go_sem, hr0, hr1, hr2, hr3]) rfl ⟨⟨6, x2, 0, x4⟩, by unfold SmallI; simp only; omega, rfl,
      ((((hcu12s34s.setFar (p := ⟨w.heap.size, 0, none⟩) hg _).setFar (p := ⟨w.heap.size, 1, none⟩) hg _).setFar (p := ⟨w.heap.size, 2, none⟩) hg _).setFar (p := ⟨w.heap.size, 3, none⟩) hg _),
      ((((ho1234.setNew (p := ⟨w.heap.size, 0, none⟩) (Nat.le_refl _) _).setNew (p := ⟨w.heap.size, 1, none⟩) (Nat.le_refl _) _).setNew (p := ⟨w.heap.size, 2, none⟩) (Nat.le_refl _) _).setNew (p := ⟨w.heap.size, 3, none⟩) (Nat.le_refl _) _)⟩
  · clear hop
    have kC := Bk.new w1 #[.int .i64 7, .int .i64 0, .int .i64 0, .int .i64 0] 74
    have kA := kA1.alloc (.cells #[.int .i64 7, .int .i64 0, .int .i64 0, .int .i64 0] 74)
    have hcu := hcu1.below ((Below.refl _ _).alloc (Nat.le_refl _) (.cells #[.int .i64 7, .int .i64 0, .int .i64 0, .int .i64 0] 74))
    have ho := hot1.alloc (.cells #[.int .i64 7, .int .i64 0, .int .i64 0, .int .i64 0] 74)
    clear kA1 hcu1 hot1
    obtain ⟨hx0, hf0⟩ := kC.at_ 0 rfl
    obtain ⟨hx1, hf1⟩ := kC.at_ 1 rfl
    obtain ⟨hx2, hf2⟩ := kC.at_ 2 rfl
    obtain ⟨hx3, hf3⟩ := kC.at_ 3 rfl
    go_wp2_with fail
    refine (l02Named 7 114 _).mono ?_
    rintro e z1 ⟨rfl, hb1⟩
    rw [show namedF 7 114 = true from rfl]
    have kC1 := kC.below hb1 kC.lt
    have kA1 := kA.below hb1 kA.lt
    have hcu1 := hcu.below hb1
    have ho1 := ho.thenBelow hb1 ho.size
    clear hx0 hf0 hx1 hf1 hx2 hf2 hx3 hf3 kC kA hcu ho
    obtain ⟨hx0, hf0⟩ := kC1.at_ 0 rfl
    obtain ⟨hx1, hf1⟩ := kC1.at_ 1 rfl
    obtain ⟨hx2, hf2⟩ := kC1.at_ 2 rfl
    obtain ⟨hx3, hf3⟩ := kC1.at_ 3 rfl
    go_wp2_with fail
    refine (l01Below g 3 _ hcu1 (WalkArith.wf_i64 (by omega))).mono ?_
    rintro e z2 ⟨x2, hxx2, rfl, hcu12, hoo2⟩
    have hxr2 : 0 ≤ x2 ∧ x2 ≤ 2 := by omega
    have kC12 := (kC1.only hoo2 (by simp; omega)).set_ 1 (.int .i64 x2)
    have kC12o := kC1.only hoo2 (by simp; omega)
    have kA12 := (kA1.only hoo2 (by simp; omega)).far (p := ⟨w1.heap.size, 1, none⟩) (by show w.heap.size ≠ w1.heap.size; omega) (.int .i64 x2)
    have hcu12s := hcu12.setFar (p := ⟨w1.heap.size, 1, none⟩) (by show g < w1.heap.size; omega) (.int .i64 x2)
    have ho12 := (ho1.trans hoo2).setNew (p := ⟨w1.heap.size, 1, none⟩) (by show w.heap.size ≤ w1.heap.size; omega) (.int .i64 x2)
    clear hxx2 hx0 hf0 hx1 hf1 hx2 hf2 hx3 hf3
    obtain ⟨hy2x0, hg2x0⟩ := kC12o.at_ 0 rfl
    obtain ⟨hy2x1, hg2x1⟩ := kC12o.at_ 1 rfl
    obtain ⟨hy2x2, hg2x2⟩ := kC12o.at_ 2 rfl
    obtain ⟨hy2x3, hg2x3⟩ := kC12o.at_ 3 rfl
    clear kC1 kA1 hcu1 ho1 hoo2 hcu12 kC12o
    obtain ⟨hx0, hf0⟩ := kC12.at_ 0 rfl
    obtain ⟨hx1, hf1⟩ := kC12.at_ 1 rfl
    obtain ⟨hx2, hf2⟩ := kC12.at_ 2 rfl
    obtain ⟨hx3, hf3⟩ := kC12.at_ 3 rfl
    go_wp2_with fail
    refine (l02Named 7 115 _).mono ?_
    rintro e z3 ⟨rfl, hb3⟩
    rw [show namedF 7 115 = true from rfl]
    have kC123 := kC12.below hb3 kC12.lt
    have kA123 := kA12.below hb3 kA12.lt
    have hcu12s3 := hcu12s.below hb3
    have ho123 := ho12.thenBelow hb3 ho12.size
    clear hx0 hf0 hx1 hf1 hx2 hf2 hx3 hf3 kC12 kA12 hcu12s ho12
    obtain ⟨hx0, hf0⟩ := kC123.at_ 0 rfl
    obtain ⟨hx1, hf1⟩ := kC123.at_ 1 rfl
    obtain ⟨hx2, hf2⟩ := kC123.at_ 2 rfl
    obtain ⟨hx3, hf3⟩ := kC123.at_ 3 rfl
    go_wp2_with fail
    refine (l01Below g 3 _ hcu12s3 (WalkArith.wf_i64 (by omega))).mono ?_
    rintro e z4 ⟨x4, hxx4, rfl, hcu12s34, hoo4⟩
    have hxr4 : 0 ≤ x4 ∧ x4 ≤ 2 := by omega
    have kC1234 := (kC123.only hoo4 (by simp; omega)).set_ 2 (.int .i64 x4)
    have kC1234o := kC123.only hoo4 (by simp; omega)
    have kA1234 := (kA123.only hoo4 (by simp; omega)).far (p := ⟨w1.heap.size, 2, none⟩) (by show w.heap.size ≠ w1.heap.size; omega) (.int .i64 x4)
    have hcu12s34s := hcu12s34.setFar (p := ⟨w1.heap.size, 2, none⟩) (by show g < w1.heap.size; omega) (.int .i64 x4)
    have ho1234 := (ho123.trans hoo4).setNew (p := ⟨w1.heap.size, 2, none⟩) (by show w.heap.size ≤ w1.heap.size; omega) (.int .i64 x4)
    clear hxx4 hx0 hf0 hx1 hf1 hx2 hf2 hx3 hf3
    obtain ⟨hy4x0, hg4x0⟩ := kC1234o.at_ 0 rfl
    obtain ⟨hy4x1, hg4x1⟩ := kC1234o.at_ 1 rfl
    obtain ⟨hy4x2, hg4x2⟩ := kC1234o.at_ 2 rfl
    obtain ⟨hy4x3, hg4x3⟩ := kC1234o.at_ 3 rfl
    clear kC123 kA123 hcu12s3 ho123 hoo4 hcu12s34 kC1234o
    obtain ⟨hx0, hf0⟩ := kC1234.at_ 0 rfl
    obtain ⟨hx1, hf1⟩ := kC1234.at_ 1 rfl
    obtain ⟨hx2, hf2⟩ := kC1234.at_ 2 rfl
    obtain ⟨hx3, hf3⟩ := kC1234.at_ 3 rfl
    go_wp2_with fail
    refine (l01Below g cells _ hcu12s34s (WalkArith.wf_i64 (by omega))).mono ?_
    rintro e z5 ⟨x5, hxx5, rfl, hcu12s34s5, hoo5⟩
    have hxr5 : -1 ≤ x5 ∧ x5 ≤ 1000 := by omega
    have kC12345 := (kC1234.only hoo5 (by simp; omega)).set_ 3 (.int .i64 x5)
    have kC12345o := kC1234.only hoo5 (by simp; omega)
    have kA12345 := (kA1234.only hoo5 (by simp; omega)).far (p := ⟨w1.heap.size, 3, none⟩) (by show w.heap.size ≠ w1.heap.size; omega) (.int .i64 x5)
    have hcu12s34s5s := hcu12s34s5.setFar (p := ⟨w1.heap.size, 3, none⟩) (by show g < w1.heap.size; omega) (.int .i64 x5)
    have ho12345 := (ho1234.trans hoo5).setNew (p := ⟨w1.heap.size, 3, none⟩) (by show w.heap.size ≤ w1.heap.size; omega) (.int .i64 x5)
    clear hxx5 hx0 hf0 hx1 hf1 hx2 hf2 hx3 hf3
    obtain ⟨hy5x0, hg5x0⟩ := kC12345o.at_ 0 rfl
    obtain ⟨hy5x1, hg5x1⟩ := kC12345o.at_ 1 rfl
    obtain ⟨hy5x2, hg5x2⟩ := kC12345o.at_ 2 rfl
    obtain ⟨hy5x3, hg5x3⟩ := kC12345o.at_ 3 rfl
    clear kC1234 kA1234 hcu12s34s ho1234 hoo5 hcu12s34s5 kC12345o
    obtain ⟨he0, hh0⟩ := kC12345.at_ 0 rfl
    obtain ⟨he1, hh1⟩ := kC12345.at_ 1 rfl
    obtain ⟨he2, hh2⟩ := kC12345.at_ 2 rfl
    obtain ⟨he3, hh3⟩ := kC12345.at_ 3 rfl
    obtain ⟨ha0, hb0x⟩ := kA12345.at_ 0 rfl
    obtain ⟨ha1, hb1x⟩ := kA12345.at_ 1 rfl
    obtain ⟨ha2, hb2x⟩ := kA12345.at_ 2 rfl
    obtain ⟨ha3, hb3x⟩ := kA12345.at_ 3 rfl
    go_wp2_with fail
    have kF := (((kA12345.set_ 0 (.int .i64 7)).set_ 1 (.int .i64 x2)).set_ 2 (.int .i64 x4)).set_ 3 (.int .i64 x5)
    obtain ⟨hr0, -⟩ := kF.at_ 0 rfl
    obtain ⟨hr1, -⟩ := kF.at_ 1 rfl
    obtain ⟨hr2, -⟩ := kF.at_ 2 rfl
    obtain ⟨hr3, -⟩ := kF.at_ 3 rfl
    exact bodyPost_ret (v := .agg #[.int .i64 7, .int .i64 x2, .int .i64 x4, .int .i64 x5]) (by simp [results, Try.results100, go_sem, hr0, hr1, hr2, hr3]) rfl ⟨⟨7, x2, x4, x5⟩, by unfold SmallI; simp only; omega, rfl,
      ((((hcu12s34s5s.setFar (p := ⟨w.heap.size, 0, none⟩) hg _).setFar (p := ⟨w.heap.size, 1, none⟩) hg _).setFar (p := ⟨w.heap.size, 2, none⟩) hg _).setFar (p := ⟨w.heap.size, 3, none⟩) hg _),
      ((((ho12345.setNew (p := ⟨w.heap.size, 0, none⟩) (Nat.le_refl _) _).setNew (p := ⟨w.heap.size, 1, none⟩) (Nat.le_refl _) _).setNew (p := ⟨w.heap.size, 2, none⟩) (Nat.le_refl _) _).setNew (p := ⟨w.heap.size, 3, none⟩) (Nat.le_refl _) _)⟩
  · clear hop
    have kC := Bk.new w1 #[.int .i64 8, .int .i64 0, .int .i64 0, .int .i64 0] 74
    have kA := kA1.alloc (.cells #[.int .i64 8, .int .i64 0, .int .i64 0, .int .i64 0] 74)
    have hcu := hcu1.below ((Below.refl _ _).alloc (Nat.le_refl _) (.cells #[.int .i64 8, .int .i64 0, .int .i64 0, .int .i64 0] 74))
    have ho := hot1.alloc (.cells #[.int .i64 8, .int .i64 0, .int .i64 0, .int .i64 0] 74)
    clear kA1 hcu1 hot1
    obtain ⟨hx0, hf0⟩ := kC.at_ 0 rfl
    obtain ⟨hx1, hf1⟩ := kC.at_ 1 rfl
    obtain ⟨hx2, hf2⟩ := kC.at_ 2 rfl
    obtain ⟨hx3, hf3⟩ := kC.at_ 3 rfl
    go_wp2_with fail
    refine (l02Named 8 114 _).mono ?_
    rintro e z1 ⟨rfl, hb1⟩
    rw [show namedF 8 114 = true from rfl]
    have kC1 := kC.below hb1 kC.lt
    have kA1 := kA.below hb1 kA.lt
    have hcu1 := hcu.below hb1
    have ho1 := ho.thenBelow hb1 ho.size
    clear hx0 hf0 hx1 hf1 hx2 hf2 hx3 hf3 kC kA hcu ho
    obtain ⟨hx0, hf0⟩ := kC1.at_ 0 rfl
    obtain ⟨hx1, hf1⟩ := kC1.at_ 1 rfl
    obtain ⟨hx2, hf2⟩ := kC1.at_ 2 rfl
    obtain ⟨hx3, hf3⟩ := kC1.at_ 3 rfl
    go_wp2_with fail
    refine (l01Below g 3 _ hcu1 (WalkArith.wf_i64 (by omega))).mono ?_
    rintro e z2 ⟨x2, hxx2, rfl, hcu12, hoo2⟩
    have hxr2 : 0 ≤ x2 ∧ x2 ≤ 2 := by omega
    have kC12 := (kC1.only hoo2 (by simp; omega)).set_ 1 (.int .i64 x2)
    have kC12o := kC1.only hoo2 (by simp; omega)
    have kA12 := (kA1.only hoo2 (by simp; omega)).far (p := ⟨w1.heap.size, 1, none⟩) (by show w.heap.size ≠ w1.heap.size; omega) (.int .i64 x2)
    have hcu12s := hcu12.setFar (p := ⟨w1.heap.size, 1, none⟩) (by show g < w1.heap.size; omega) (.int .i64 x2)
    have ho12 := (ho1.trans hoo2).setNew (p := ⟨w1.heap.size, 1, none⟩) (by show w.heap.size ≤ w1.heap.size; omega) (.int .i64 x2)
    clear hxx2 hx0 hf0 hx1 hf1 hx2 hf2 hx3 hf3
    obtain ⟨hy2x0, hg2x0⟩ := kC12o.at_ 0 rfl
    obtain ⟨hy2x1, hg2x1⟩ := kC12o.at_ 1 rfl
    obtain ⟨hy2x2, hg2x2⟩ := kC12o.at_ 2 rfl
    obtain ⟨hy2x3, hg2x3⟩ := kC12o.at_ 3 rfl
    clear kC1 kA1 hcu1 ho1 hoo2 hcu12 kC12o
    obtain ⟨hx0, hf0⟩ := kC12.at_ 0 rfl
    obtain ⟨hx1, hf1⟩ := kC12.at_ 1 rfl
    obtain ⟨hx2, hf2⟩ := kC12.at_ 2 rfl
    obtain ⟨hx3, hf3⟩ := kC12.at_ 3 rfl
    go_wp2_with fail
    refine (l02Named 8 115 _).mono ?_
    rintro e z3 ⟨rfl, hb3⟩
    rw [show namedF 8 115 = true from rfl]
    have kC123 := kC12.below hb3 kC12.lt
    have kA123 := kA12.below hb3 kA12.lt
    have hcu12s3 := hcu12s.below hb3
    have ho123 := ho12.thenBelow hb3 ho12.size
    clear hx0 hf0 hx1 hf1 hx2 hf2 hx3 hf3 kC12 kA12 hcu12s ho12
    obtain ⟨hx0, hf0⟩ := kC123.at_ 0 rfl
    obtain ⟨hx1, hf1⟩ := kC123.at_ 1 rfl
    obtain ⟨hx2, hf2⟩ := kC123.at_ 2 rfl
    obtain ⟨hx3, hf3⟩ := kC123.at_ 3 rfl
    go_wp2_with fail
    refine (l01Below g 3 _ hcu12s3 (WalkArith.wf_i64 (by omega))).mono ?_
    rintro e z4 ⟨x4, hxx4, rfl, hcu12s34, hoo4⟩
    have hxr4 : 0 ≤ x4 ∧ x4 ≤ 2 := by omega
    have kC1234 := (kC123.only hoo4 (by simp; omega)).set_ 2 (.int .i64 x4)
    have kC1234o := kC123.only hoo4 (by simp; omega)
    have kA1234 := (kA123.only hoo4 (by simp; omega)).far (p := ⟨w1.heap.size, 2, none⟩) (by show w.heap.size ≠ w1.heap.size; omega) (.int .i64 x4)
    have hcu12s34s := hcu12s34.setFar (p := ⟨w1.heap.size, 2, none⟩) (by show g < w1.heap.size; omega) (.int .i64 x4)
    have ho1234 := (ho123.trans hoo4).setNew (p := ⟨w1.heap.size, 2, none⟩) (by show w.heap.size ≤ w1.heap.size; omega) (.int .i64 x4)
    clear hxx4 hx0 hf0 hx1 hf1 hx2 hf2 hx3 hf3
    obtain ⟨hy4x0, hg4x0⟩ := kC1234o.at_ 0 rfl
    obtain ⟨hy4x1, hg4x1⟩ := kC1234o.at_ 1 rfl
    obtain ⟨hy4x2, hg4x2⟩ := kC1234o.at_ 2 rfl
    obtain ⟨hy4x3, hg4x3⟩ := kC1234o.at_ 3 rfl
    clear kC123 kA123 hcu12s3 ho123 hoo4 hcu12s34 kC1234o
    obtain ⟨he0, hh0⟩ := kC1234.at_ 0 rfl
    obtain ⟨he1, hh1⟩ := kC1234.at_ 1 rfl
    obtain ⟨he2, hh2⟩ := kC1234.at_ 2 rfl
    obtain ⟨he3, hh3⟩ := kC1234.at_ 3 rfl
    obtain ⟨ha0, hb0x⟩ := kA1234.at_ 0 rfl
    obtain ⟨ha1, hb1x⟩ := kA1234.at_ 1 rfl
    obtain ⟨ha2, hb2x⟩ := kA1234.at_ 2 rfl
    obtain ⟨ha3, hb3x⟩ := kA1234.at_ 3 rfl
    go_wp2_with fail
    have kF := (((kA1234.set_ 0 (.int .i64 8)).set_ 1 (.int .i64 x2)).set_ 2 (.int .i64 x4)).set_ 3 (.int .i64 0)
    obtain ⟨hr0, -⟩ := kF.at_ 0 rfl
    obtain ⟨hr1, -⟩ := kF.at_ 1 rfl
    obtain ⟨hr2, -⟩ := kF.at_ 2 rfl
    obtain ⟨hr3, -⟩ := kF.at_ 3 rfl
    exact bodyPost_ret (v := .agg #[.int .i64 8, .int .i64 x2, .int .i64 x4, .int .i64 0]) (by simp [results, Try.results100, go_sem, hr0, hr1, hr2, hr3]) rfl ⟨⟨8, x2, x4, 0⟩, by unfold SmallI; simp only; omega, rfl,
      ((((hcu12s34s.setFar (p := ⟨w.heap.size, 0, none⟩) hg _).setFar (p := ⟨w.heap.size, 1, none⟩) hg _).setFar (p := ⟨w.heap.size, 2, none⟩) hg _).setFar (p := ⟨w.heap.size, 3, none⟩) hg _),
      ((((ho1234.setNew (p := ⟨w.heap.size, 0, none⟩) (Nat.le_refl _) _).setNew (p := ⟨w.heap.size, 1, none⟩) (Nat.le_refl _) _).setNew (p := ⟨w.heap.size, 2, none⟩) (Nat.le_refl _) _).setNew (p := ⟨w.heap.size, 3, none⟩) (Nat.le_refl _) _)⟩
end Go.Proofs.Ytgbgjlmkmlhefaa
