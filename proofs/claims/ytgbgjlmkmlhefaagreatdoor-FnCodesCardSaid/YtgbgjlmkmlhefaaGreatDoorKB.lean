import Derived.Test.YtgbgjlmkmlhefaaGreatDoorDraw
import Derived.Test.YtgbgjlmkmlhefaaGreatDoorS2c
import Derived.Test.YtgbgjlmkmlhefaaGreatDoorS2e
import Derived.Test.YtgbgjlmkmlhefaaGreatDoorM3b
import Derived.Deep.DeepCutAuto
import Derived.Deep.RegionHeld3
/- Contracts of the draws of instructions and codes (package spec). Conditions: the cursor's bytes can be read; the numbers are small. -/
namespace Go.Proofs.YtgbgjlmkmlhefaaGreatDoor
set_option maxRecDepth 20000
set_option linter.unusedSimpArgs false
set_option linter.unusedVariables false
open Go.ChangeShapes Go.WideShapes Go.ChangeAt Go.RowKit
set_option linter.unusedVariables false
theorem Only.setNew {bs : List Nat} {w w1 : World} {p : Addr} (h : Only bs w w1) (hp : w.heap.size ≤ p.block) (u : Value) : Only bs w (w1.setCell p u) :=
  ⟨h.os, h.tape, h.output, by simpa [World.setCell] using h.size, fun k hk hn => (Below.heap_setCell w1 p u k (by omega)).trans (h.block k hk hn)⟩
theorem Cur.setFar {w : World} {g lo : Nat} {p : Addr} (h : Cur lo w g) (hp : g < p.block) (u : Value) : Cur lo (w.setCell p u) g := by
  obtain ⟨b, i, m⟩ := p
  refine h.only (bs := [b]) ⟨rfl, rfl, rfl, by simp [World.setCell], fun k _ hn => Below.heap_setCell _ _ _ _ (by simpa using hn)⟩ (by simpa using hp)
def SmallI (i : Ins) : Prop := (0 ≤ i.o ∧ i.o ≤ 8) ∧ (0 ≤ i.r ∧ i.r ≤ 2) ∧ (0 ≤ i.s ∧ i.s ≤ 2) ∧ (-1 ≤ i.n ∧ i.n ≤ 1000)
def DrawnI (lo g : Nat) (w : World) (e : Ending) (w' : World) : Prop := ∃ i : Ins, SmallI i ∧ e = .returned (Value.agg #[.int .i64 i.o, .int .i64 i.r, .int .i64 i.s, .int .i64 i.n]) ∧ Cur lo w' g ∧ Only [g] w w'
theorem ops_mem {x : Int} (h : x ∈ ([0, 0, 1, 2, 2, 2, 3, 3, 3, 3, 4, 5, 6, 7, 8] : List Int)) : x = 0 ∨ x = 1 ∨ x = 2 ∨ x = 3 ∨ x = 4 ∨ x = 5 ∨ x = 6 ∨ x = 7 ∨ x = 8 := by
  simp at h
  omega
theorem ns_mem {x : Int} (h : x ∈ ([0, 1, 1, 2, 5, -1, 1000] : List Int)) : -1 ≤ x ∧ x ≤ 1000 := by
  simp at h
  omega
set_option maxHeartbeats 6400000 in
theorem l02DrawInstr (g : Nat) (cells size : Int) (w : World) {lo : Nat} (h : Cur lo w g) (hc0 : 0 ≤ cells ∧ cells ≤ 20) (hs0 : 0 ≤ size ∧ size ≤ 20) :
    Calls Tryz.prog 75 #[.pointer (some ⟨g, 0, none⟩), .int .i64 cells, .int .i64 size] w (DrawnI lo g w) := by
  have hg := h.lt
  have kA0 := (Bk.new w #[.int .i64 0, .int .i64 0, .int .i64 0, .int .i64 0] 37).alloc (.cells #[.int .i64 0, .int .i64 0, .int .i64 1, .int .i64 2, .int .i64 2, .int .i64 2, .int .i64 3, .int .i64 3, .int .i64 3, .int .i64 3, .int .i64 4, .int .i64 5, .int .i64 6, .int .i64 7, .int .i64 8] 3)
  have hcu0 := (h.below ((Below.refl _ _).alloc (Nat.le_refl _) (.cells #[.int .i64 0, .int .i64 0, .int .i64 0, .int .i64 0] 37))).below ((Below.refl _ _).alloc (Nat.le_refl _) (.cells #[.int .i64 0, .int .i64 0, .int .i64 1, .int .i64 2, .int .i64 2, .int .i64 2, .int .i64 3, .int .i64 3, .int .i64 3, .int .i64 3, .int .i64 4, .int .i64 5, .int .i64 6, .int .i64 7, .int .i64 8] 3))
  have ho0 := ((Only.refl [g] w).alloc (.cells #[.int .i64 0, .int .i64 0, .int .i64 0, .int .i64 0] 37)).alloc (.cells #[.int .i64 0, .int .i64 0, .int .i64 1, .int .i64 2, .int .i64 2, .int .i64 2, .int .i64 3, .int .i64 3, .int .i64 3, .int .i64 3, .int .i64 4, .int .i64 5, .int .i64 6, .int .i64 7, .int .i64 8] 3)
  have HR : Hid (Rd ((w.alloc (.cells #[.int .i64 0, .int .i64 0, .int .i64 0, .int .i64 0] 37)).alloc (.cells #[.int .i64 0, .int .i64 0, .int .i64 1, .int .i64 2, .int .i64 2, .int .i64 2, .int .i64 3, .int .i64 3, .int .i64 3, .int .i64 3, .int .i64 4, .int .i64 5, .int .i64 6, .int .i64 7, .int .i64 8] 3)) (.slice (some ⟨w.heap.size + 1, 0, none⟩) 15 15) 1 15 (ints [0, 0, 1, 2, 2, 2, 3, 3, 3, 3, 4, 5, 6, 7, 8])) := Lib.hid (by
    have := rd_lit (w.alloc (.cells #[.int .i64 0, .int .i64 0, .int .i64 0, .int .i64 0] 37)) [0, 0, 1, 2, 2, 2, 3, 3, 3, 3, 4, 5, 6, 7, 8] 3 (by simp)
    rw [World.size_alloc] at this
    exact this)
  go_enter Tryz.func75, Tryz.ntmps75
  go_wp2_with fail
  refine (l01PickInt g _ [0, 0, 1, 2, 2, 2, 3, 3, 3, 3, 4, 5, 6, 7, 8] _ hcu0 HR.out (by decide) (by intro A n c he ad ha; injection he with e1; subst e1; injection ha with ha; subst ha; simp; omega)).mono ?_
  rintro e w1 ⟨op, hop, rfl, hcu1, ho1⟩
  have kA1 := kA0.only ho1 (by simp; omega)
  have hz1 : w.heap.size + 2 ≤ w1.heap.size := by have := ho1.size; simpa using this
  have hot1 := ho0.trans ho1
  clear kA0 hcu0 ho0 ho1
  rcases ops_mem hop with rfl | rfl | rfl | rfl | rfl | rfl | rfl | rfl | rfl
  · clear hop
    have kC := Bk.new w1 #[.int .i64 0, .int .i64 0, .int .i64 0, .int .i64 0] 37
    have kA := kA1.alloc (.cells #[.int .i64 0, .int .i64 0, .int .i64 0, .int .i64 0] 37)
    have hcu := hcu1.below ((Below.refl _ _).alloc (Nat.le_refl _) (.cells #[.int .i64 0, .int .i64 0, .int .i64 0, .int .i64 0] 37))
    have ho := hot1.alloc (.cells #[.int .i64 0, .int .i64 0, .int .i64 0, .int .i64 0] 37)
    clear kA1 hcu1 hot1
    obtain ⟨hx0, hf0⟩ := kC.at_ 0 rfl
    obtain ⟨hx1, hf1⟩ := kC.at_ 1 rfl
    obtain ⟨hx2, hf2⟩ := kC.at_ 2 rfl
    obtain ⟨hx3, hf3⟩ := kC.at_ 3 rfl
    go_wp2_with fail
    refine (l02Named 0 114 _).mono ?_
    rintro e z1 ⟨rfl, hb1⟩
    rw [show namedF 0 114 = true from rfl]
    have kC1 := kC.below hb1 kC.lt
    have kA1 := kA.below hb1 kA.lt
    have hcu1 := hcu.below hb1
    have ho1 := ho.thenBelow hb1 ho.size
    clear hx0 hf0 hx1 hf1 hx2 hf2 hx3 hf3 kC kA hcu ho
    obtain ⟨hx0, hf0⟩ := kC1.at_ 0 rfl
    obtain ⟨hx1, hf1⟩ := kC1.at_ 1 rfl
    obtain ⟨hx2, hf2⟩ := kC1.at_ 2 rfl
    obtain ⟨hx3, hf3⟩ := kC1.at_ 3 rfl
    go_wp2_with fail
    refine (l01Below g 3 _ hcu1 (WalkArith.wf_i64 (by omega))).mono ?_
    rintro e z2 ⟨x2, hxx2, rfl, hcu12, hoo2⟩
    have hxr2 : 0 ≤ x2 ∧ x2 ≤ 2 := by omega
    have kC12 := (kC1.only hoo2 (by simp; omega)).set_ 1 (.int .i64 x2)
    have kC12o := kC1.only hoo2 (by simp; omega)
    have kA12 := (kA1.only hoo2 (by simp; omega)).far (p := ⟨w1.heap.size, 1, none⟩) (by show w.heap.size ≠ w1.heap.size; omega) (.int .i64 x2)
    have hcu12s := hcu12.setFar (p := ⟨w1.heap.size, 1, none⟩) (by show g < w1.heap.size; omega) (.int .i64 x2)
    have ho12 := (ho1.trans hoo2).setNew (p := ⟨w1.heap.size, 1, none⟩) (by show w.heap.size ≤ w1.heap.size; omega) (.int .i64 x2)
    clear hxx2 hx0 hf0 hx1 hf1 hx2 hf2 hx3 hf3
    obtain ⟨hy2x0, hg2x0⟩ := kC12o.at_ 0 rfl
    obtain ⟨hy2x1, hg2x1⟩ := kC12o.at_ 1 rfl
    obtain ⟨hy2x2, hg2x2⟩ := kC12o.at_ 2 rfl
    obtain ⟨hy2x3, hg2x3⟩ := kC12o.at_ 3 rfl
    clear kC1 kA1 hcu1 ho1 hoo2 hcu12 kC12o
    obtain ⟨hx0, hf0⟩ := kC12.at_ 0 rfl
    obtain ⟨hx1, hf1⟩ := kC12.at_ 1 rfl
    obtain ⟨hx2, hf2⟩ := kC12.at_ 2 rfl
    obtain ⟨hx3, hf3⟩ := kC12.at_ 3 rfl
    go_wp2_with fail
    refine (l02Named 0 115 _).mono ?_
    rintro e z3 ⟨rfl, hb3⟩
    rw [show namedF 0 115 = false from rfl]
    have kC123 := kC12.below hb3 kC12.lt
    have kA123 := kA12.below hb3 kA12.lt
    have hcu12s3 := hcu12s.below hb3
    have ho123 := ho12.thenBelow hb3 ho12.size
    clear hx0 hf0 hx1 hf1 hx2 hf2 hx3 hf3 kC12 kA12 hcu12s ho12
    obtain ⟨hx0, hf0⟩ := kC123.at_ 0 rfl
    obtain ⟨hx1, hf1⟩ := kC123.at_ 1 rfl
    obtain ⟨hx2, hf2⟩ := kC123.at_ 2 rfl
    obtain ⟨hx3, hf3⟩ := kC123.at_ 3 rfl
    have HP4 : Hid (Rd (z3.alloc (.cells #[.int .i64 0, .int .i64 1, .int .i64 1, .int .i64 2, .int .i64 5, .int .i64 (-1), .int .i64 1000] 3)) (.slice (some ⟨z3.heap.size, 0, none⟩) 7 7) 1 7 (ints [0, 1, 1, 2, 5, -1, 1000])) := Lib.hid (rd_lit z3 [0, 1, 1, 2, 5, -1, 1000] 3 (by simp))
    have hgl4 : g < z3.heap.size := hcu12s3.lt
    have kC1234a := kC123.alloc (.cells #[.int .i64 0, .int .i64 1, .int .i64 1, .int .i64 2, .int .i64 5, .int .i64 (-1), .int .i64 1000] 3)
    have kA1234a := kA123.alloc (.cells #[.int .i64 0, .int .i64 1, .int .i64 1, .int .i64 2, .int .i64 5, .int .i64 (-1), .int .i64 1000] 3)
    have hcu12s34a := hcu12s3.below ((Below.refl _ _).alloc (Nat.le_refl _) (.cells #[.int .i64 0, .int .i64 1, .int .i64 1, .int .i64 2, .int .i64 5, .int .i64 (-1), .int .i64 1000] 3))
    have ho1234a := ho123.alloc (.cells #[.int .i64 0, .int .i64 1, .int .i64 1, .int .i64 2, .int .i64 5, .int .i64 (-1), .int .i64 1000] 3)
    clear kC123 kA123 hcu12s3 ho123
    go_wp2_with fail
    refine (l01PickInt g _ [0, 1, 1, 2, 5, -1, 1000] _ hcu12s34a HP4.out (by decide) (by intro A n c he ad ha; injection he with e1; subst e1; injection ha with ha; subst ha; simp; omega)).mono ?_
    rintro e z4 ⟨x4, hxx4, rfl, hcu12s34, hoo4⟩
    have hxr4 := ns_mem hxx4
    have kC1234 := (kC1234a.only hoo4 (by simp; omega)).set_ 3 (.int .i64 x4)
    have kC1234o := kC1234a.only hoo4 (by simp; omega)
    have kA1234 := (kA1234a.only hoo4 (by simp; omega)).far (p := ⟨w1.heap.size, 3, none⟩) (by show w.heap.size ≠ w1.heap.size; omega) (.int .i64 x4)
    have hcu12s34s := hcu12s34.setFar (p := ⟨w1.heap.size, 3, none⟩) (by show g < w1.heap.size; omega) (.int .i64 x4)
    have ho1234 := (ho1234a.trans hoo4).setNew (p := ⟨w1.heap.size, 3, none⟩) (by show w.heap.size ≤ w1.heap.size; omega) (.int .i64 x4)
    clear hxx4 hx0 hf0 hx1 hf1 hx2 hf2 hx3 hf3
    obtain ⟨hy4x0, hg4x0⟩ := kC1234o.at_ 0 rfl
    obtain ⟨hy4x1, hg4x1⟩ := kC1234o.at_ 1 rfl
    obtain ⟨hy4x2, hg4x2⟩ := kC1234o.at_ 2 rfl
    obtain ⟨hy4x3, hg4x3⟩ := kC1234o.at_ 3 rfl
    clear kC1234a kA1234a hcu12s34a ho1234a hoo4 hcu12s34 kC1234o
    obtain ⟨he0, hh0⟩ := kC1234.at_ 0 rfl
    obtain ⟨he1, hh1⟩ := kC1234.at_ 1 rfl
    obtain ⟨he2, hh2⟩ := kC1234.at_ 2 rfl
    obtain ⟨he3, hh3⟩ := kC1234.at_ 3 rfl
    obtain ⟨ha0, hb0x⟩ := kA1234.at_ 0 rfl
    obtain ⟨ha1, hb1x⟩ := kA1234.at_ 1 rfl
    obtain ⟨ha2, hb2x⟩ := kA1234.at_ 2 rfl
    obtain ⟨ha3, hb3x⟩ := kA1234.at_ 3 rfl
    go_wp2_with fail
    have kF := (((kA1234.set_ 0 (.int .i64 0)).set_ 1 (.int .i64 x2)).set_ 2 (.int .i64 0)).set_ 3 (.int .i64 x4)
    obtain ⟨hr0, -⟩ := kF.at_ 0 rfl
    obtain ⟨hr1, -⟩ := kF.at_ 1 rfl
    obtain ⟨hr2, -⟩ := kF.at_ 2 rfl
    obtain ⟨hr3, -⟩ := kF.at_ 3 rfl
    exact bodyPost_ret (v := .agg #[.int .i64 0, .int .i64 x2, .int .i64 0, .int .i64 x4]) (by simp [results, Tryz.results75, go_sem, hr0, hr1, hr2, hr3]) rfl ⟨⟨0, x2, 0, x4⟩, by unfold SmallI; simp only; omega, rfl,
      ((((hcu12s34s.setFar (p := ⟨w.heap.size, 0, none⟩) hg _).setFar (p := ⟨w.heap.size, 1, none⟩) hg _).setFar (p := ⟨w.heap.size, 2, none⟩) hg _).setFar (p := ⟨w.heap.size, 3, none⟩) hg _),
      ((((ho1234.setNew (p := ⟨w.heap.size, 0, none⟩) (Nat.le_refl _) _).setNew (p := ⟨w.heap.size, 1, none⟩) (Nat.le_refl _) _).setNew (p := ⟨w.heap.size, 2, none⟩) (Nat.le_refl _) _).setNew (p := ⟨w.heap.size, 3, none⟩) (Nat.le_refl _) _)⟩
  · clear hop
    have kC := Bk.new w1 #[.int .i64 1, .int .i64 0, .int .i64 0, .int .i64 0] 37
    have kA := kA1.alloc (.cells #[.int .i64 1, .int .i64 0, .int .i64 0, .int .i64 0] 37)
    have hcu := hcu1.below ((Below.refl _ _).alloc (Nat.le_refl _) (.cells #[.int .i64 1, .int .i64 0, .int .i64 0, .int .i64 0] 37))
    have ho := hot1.alloc (.cells #[.int .i64 1, .int .i64 0, .int .i64 0, .int .i64 0] 37)
    clear kA1 hcu1 hot1
    obtain ⟨hx0, hf0⟩ := kC.at_ 0 rfl
    obtain ⟨hx1, hf1⟩ := kC.at_ 1 rfl
    obtain ⟨hx2, hf2⟩ := kC.at_ 2 rfl
    obtain ⟨hx3, hf3⟩ := kC.at_ 3 rfl
    go_wp2_with fail
    refine (l02Named 1 114 _).mono ?_
    rintro e z1 ⟨rfl, hb1⟩
    rw [show namedF 1 114 = true from rfl]
    have kC1 := kC.below hb1 kC.lt
    have kA1 := kA.below hb1 kA.lt
    have hcu1 := hcu.below hb1
    have ho1 := ho.thenBelow hb1 ho.size
    clear hx0 hf0 hx1 hf1 hx2 hf2 hx3 hf3 kC kA hcu ho
    obtain ⟨hx0, hf0⟩ := kC1.at_ 0 rfl
    obtain ⟨hx1, hf1⟩ := kC1.at_ 1 rfl
    obtain ⟨hx2, hf2⟩ := kC1.at_ 2 rfl
    obtain ⟨hx3, hf3⟩ := kC1.at_ 3 rfl
    go_wp2_with fail
    refine (l01Below g 3 _ hcu1 (WalkArith.wf_i64 (by omega))).mono ?_
    rintro e z2 ⟨x2, hxx2, rfl, hcu12, hoo2⟩
    have hxr2 : 0 ≤ x2 ∧ x2 ≤ 2 := by omega
    have kC12 := (kC1.only hoo2 (by simp; omega)).set_ 1 (.int .i64 x2)
    have kC12o := kC1.only hoo2 (by simp; omega)
    have kA12 := (kA1.only hoo2 (by simp; omega)).far (p := ⟨w1.heap.size, 1, none⟩) (by show w.heap.size ≠ w1.heap.size; omega) (.int .i64 x2)
    have hcu12s := hcu12.setFar (p := ⟨w1.heap.size, 1, none⟩) (by show g < w1.heap.size; omega) (.int .i64 x2)
    have ho12 := (ho1.trans hoo2).setNew (p := ⟨w1.heap.size, 1, none⟩) (by show w.heap.size ≤ w1.heap.size; omega) (.int .i64 x2)
    clear hxx2 hx0 hf0 hx1 hf1 hx2 hf2 hx3 hf3
    obtain ⟨hy2x0, hg2x0⟩ := kC12o.at_ 0 rfl
    obtain ⟨hy2x1, hg2x1⟩ := kC12o.at_ 1 rfl
    obtain ⟨hy2x2, hg2x2⟩ := kC12o.at_ 2 rfl
    obtain ⟨hy2x3, hg2x3⟩ := kC12o.at_ 3 rfl
    clear kC1 kA1 hcu1 ho1 hoo2 hcu12 kC12o
    obtain ⟨hx0, hf0⟩ := kC12.at_ 0 rfl
    obtain ⟨hx1, hf1⟩ := kC12.at_ 1 rfl
    obtain ⟨hx2, hf2⟩ := kC12.at_ 2 rfl
    obtain ⟨hx3, hf3⟩ := kC12.at_ 3 rfl
    go_wp2_with fail
    refine (l02Named 1 115 _).mono ?_
    rintro e z3 ⟨rfl, hb3⟩
    rw [show namedF 1 115 = true from rfl]
    have kC123 := kC12.below hb3 kC12.lt
    have kA123 := kA12.below hb3 kA12.lt
    have hcu12s3 := hcu12s.below hb3
    have ho123 := ho12.thenBelow hb3 ho12.size
    clear hx0 hf0 hx1 hf1 hx2 hf2 hx3 hf3 kC12 kA12 hcu12s ho12
    obtain ⟨hx0, hf0⟩ := kC123.at_ 0 rfl
    obtain ⟨hx1, hf1⟩ := kC123.at_ 1 rfl
    obtain ⟨hx2, hf2⟩ := kC123.at_ 2 rfl
    obtain ⟨hx3, hf3⟩ := kC123.at_ 3 rfl
    go_wp2_with fail
    refine (l01Below g 3 _ hcu12s3 (WalkArith.wf_i64 (by omega))).mono ?_
    rintro e z4 ⟨x4, hxx4, rfl, hcu12s34, hoo4⟩
    have hxr4 : 0 ≤ x4 ∧ x4 ≤ 2 := by omega
    have kC1234 := (kC123.only hoo4 (by simp; omega)).set_ 2 (.int .i64 x4)
    have kC1234o := kC123.only hoo4 (by simp; omega)
    have kA1234 := (kA123.only hoo4 (by simp; omega)).far (p := ⟨w1.heap.size, 2, none⟩) (by show w.heap.size ≠ w1.heap.size; omega) (.int .i64 x4)
    have hcu12s34s := hcu12s34.setFar (p := ⟨w1.heap.size, 2, none⟩) (by show g < w1.heap.size; omega) (.int .i64 x4)
    have ho1234 := (ho123.trans hoo4).setNew (p := ⟨w1.heap.size, 2, none⟩) (by show w.heap.size ≤ w1.heap.size; omega) (.int .i64 x4)
    clear hxx4 hx0 hf0 hx1 hf1 hx2 hf2 hx3 hf3
    obtain ⟨hy4x0, hg4x0⟩ := kC1234o.at_ 0 rfl
    obtain ⟨hy4x1, hg4x1⟩ := kC1234o.at_ 1 rfl
    obtain ⟨hy4x2, hg4x2⟩ := kC1234o.at_ 2 rfl
    obtain ⟨hy4x3, hg4x3⟩ := kC1234o.at_ 3 rfl
    clear kC123 kA123 hcu12s3 ho123 hoo4 hcu12s34 kC1234o
    obtain ⟨he0, hh0⟩ := kC1234.at_ 0 rfl
    obtain ⟨he1, hh1⟩ := kC1234.at_ 1 rfl
    obtain ⟨he2, hh2⟩ := kC1234.at_ 2 rfl
    obtain ⟨he3, hh3⟩ := kC1234.at_ 3 rfl
    obtain ⟨ha0, hb0x⟩ := kA1234.at_ 0 rfl
    obtain ⟨ha1, hb1x⟩ := kA1234.at_ 1 rfl
    obtain ⟨ha2, hb2x⟩ := kA1234.at_ 2 rfl
    obtain ⟨ha3, hb3x⟩ := kA1234.at_ 3 rfl
    go_wp2_with fail
    have kF := (((kA1234.set_ 0 (.int .i64 1)).set_ 1 (.int .i64 x2)).set_ 2 (.int .i64 x4)).set_ 3 (.int .i64 0)
    obtain ⟨hr0, -⟩ := kF.at_ 0 rfl
    obtain ⟨hr1, -⟩ := kF.at_ 1 rfl
    obtain ⟨hr2, -⟩ := kF.at_ 2 rfl
    obtain ⟨hr3, -⟩ := kF.at_ 3 rfl
    exact bodyPost_ret (v := .agg #[.int .i64 1, .int .i64 x2, .int .i64 x4, .int .i64 0]) (by simp [results, Tryz.results75, go_sem, hr0, hr1, hr2, hr3]) rfl ⟨⟨1, x2, x4, 0⟩, by unfold SmallI; simp only; omega, rfl,
      ((((hcu12s34s.setFar (p := ⟨w.heap.size, 0, none⟩) hg _).setFar (p := ⟨w.heap.size, 1, none⟩) hg _).setFar (p := ⟨w.heap.size, 2, none⟩) hg _).setFar (p := ⟨w.heap.size, 3, none⟩) hg _),
      ((((ho1234.setNew (p := ⟨w.heap.size, 0, none⟩) (Nat.le_refl _) _).setNew (p := ⟨w.heap.size, 1, none⟩) (Nat.le_refl _) _).setNew (p := ⟨w.heap.size, 2, none⟩) (Nat.le_refl _) _).setNew (p := ⟨w.heap.size, 3, none⟩) (Nat.le_refl _) _)⟩
  · clear hop
    have kC := Bk.new w1 #[.int .i64 2, .int .i64 0, .int .i64 0, .int .i64 0] 37
    have kA := kA1.alloc (.cells #[.int .i64 2, .int .i64 0, .int .i64 0, .int .i64 0] 37)
    have hcu := hcu1.below ((Below.refl _ _).alloc (Nat.le_refl _) (.cells #[.int .i64 2, .int .i64 0, .int .i64 0, .int .i64 0] 37))
    have ho := hot1.alloc (.cells #[.int .i64 2, .int .i64 0, .int .i64 0, .int .i64 0] 37)
    clear kA1 hcu1 hot1
    obtain ⟨hx0, hf0⟩ := kC.at_ 0 rfl
    obtain ⟨hx1, hf1⟩ := kC.at_ 1 rfl
    obtain ⟨hx2, hf2⟩ := kC.at_ 2 rfl
    obtain ⟨hx3, hf3⟩ := kC.at_ 3 rfl
    go_wp2_with fail
    refine (l02Named 2 114 _).mono ?_
    rintro e z1 ⟨rfl, hb1⟩
    rw [show namedF 2 114 = true from rfl]
    have kC1 := kC.below hb1 kC.lt
    have kA1 := kA.below hb1 kA.lt
    have hcu1 := hcu.below hb1
    have ho1 := ho.thenBelow hb1 ho.size
    clear hx0 hf0 hx1 hf1 hx2 hf2 hx3 hf3 kC kA hcu ho
    obtain ⟨hx0, hf0⟩ := kC1.at_ 0 rfl
    obtain ⟨hx1, hf1⟩ := kC1.at_ 1 rfl
    obtain ⟨hx2, hf2⟩ := kC1.at_ 2 rfl
    obtain ⟨hx3, hf3⟩ := kC1.at_ 3 rfl
    go_wp2_with fail
    refine (l01Below g 3 _ hcu1 (WalkArith.wf_i64 (by omega))).mono ?_
    rintro e z2 ⟨x2, hxx2, rfl, hcu12, hoo2⟩
    have hxr2 : 0 ≤ x2 ∧ x2 ≤ 2 := by omega
    have kC12 := (kC1.only hoo2 (by simp; omega)).set_ 1 (.int .i64 x2)
    have kC12o := kC1.only hoo2 (by simp; omega)
    have kA12 := (kA1.only hoo2 (by simp; omega)).far (p := ⟨w1.heap.size, 1, none⟩) (by show w.heap.size ≠ w1.heap.size; omega) (.int .i64 x2)
    have hcu12s := hcu12.setFar (p := ⟨w1.heap.size, 1, none⟩) (by show g < w1.heap.size; omega) (.int .i64 x2)
    have ho12 := (ho1.trans hoo2).setNew (p := ⟨w1.heap.size, 1, none⟩) (by show w.heap.size ≤ w1.heap.size; omega) (.int .i64 x2)
    clear hxx2 hx0 hf0 hx1 hf1 hx2 hf2 hx3 hf3
    obtain ⟨hy2x0, hg2x0⟩ := kC12o.at_ 0 rfl
    obtain ⟨hy2x1, hg2x1⟩ := kC12o.at_ 1 rfl
    obtain ⟨hy2x2, hg2x2⟩ := kC12o.at_ 2 rfl
    obtain ⟨hy2x3, hg2x3⟩ := kC12o.at_ 3 rfl
    clear kC1 kA1 hcu1 ho1 hoo2 hcu12 kC12o
    obtain ⟨hx0, hf0⟩ := kC12.at_ 0 rfl
    obtain ⟨hx1, hf1⟩ := kC12.at_ 1 rfl
    obtain ⟨hx2, hf2⟩ := kC12.at_ 2 rfl
    obtain ⟨hx3, hf3⟩ := kC12.at_ 3 rfl
    go_wp2_with fail
    refine (l02Named 2 115 _).mono ?_
    rintro e z3 ⟨rfl, hb3⟩
    rw [show namedF 2 115 = false from rfl]
    have kC123 := kC12.below hb3 kC12.lt
    have kA123 := kA12.below hb3 kA12.lt
    have hcu12s3 := hcu12s.below hb3
    have ho123 := ho12.thenBelow hb3 ho12.size
    clear hx0 hf0 hx1 hf1 hx2 hf2 hx3 hf3 kC12 kA12 hcu12s ho12
    obtain ⟨hx0, hf0⟩ := kC123.at_ 0 rfl
    obtain ⟨hx1, hf1⟩ := kC123.at_ 1 rfl
    obtain ⟨hx2, hf2⟩ := kC123.at_ 2 rfl
    obtain ⟨hx3, hf3⟩ := kC123.at_ 3 rfl
    go_wp2_with fail
    refine (l01Below g cells _ hcu12s3 (WalkArith.wf_i64 (by omega))).mono ?_
    rintro e z4 ⟨x4, hxx4, rfl, hcu12s34, hoo4⟩
    have hxr4 : -1 ≤ x4 ∧ x4 ≤ 1000 := by omega
    have kC1234 := (kC123.only hoo4 (by simp; omega)).set_ 3 (.int .i64 x4)
    have kC1234o := kC123.only hoo4 (by simp; omega)
    have kA1234 := (kA123.only hoo4 (by simp; omega)).far (p := ⟨w1.heap.size, 3, none⟩) (by show w.heap.size ≠ w1.heap.size; omega) (.int .i64 x4)
    have hcu12s34s := hcu12s34.setFar (p := ⟨w1.heap.size, 3, none⟩) (by show g < w1.heap.size; omega) (.int .i64 x4)
    have ho1234 := (ho123.trans hoo4).setNew (p := ⟨w1.heap.size, 3, none⟩) (by show w.heap.size ≤ w1.heap.size; omega) (.int .i64 x4)
    clear hxx4 hx0 hf0 hx1 hf1 hx2 hf2 hx3 hf3
    obtain ⟨hy4x0, hg4x0⟩ := kC1234o.at_ 0 rfl
    obtain ⟨hy4x1, hg4x1⟩ := kC1234o.at_ 1 rfl
    obtain ⟨hy4x2, hg4x2⟩ := kC1234o.at_ 2 rfl
    obtain ⟨hy4x3, hg4x3⟩ := kC1234o.at_ 3 rfl
    clear kC123 kA123 hcu12s3 ho123 hoo4 hcu12s34 kC1234o
    obtain ⟨he0, hh0⟩ := kC1234.at_ 0 rfl
    obtain ⟨he1, hh1⟩ := kC1234.at_ 1 rfl
    obtain ⟨he2, hh2⟩ := kC1234.at_ 2 rfl
    obtain ⟨he3, hh3⟩ := kC1234.at_ 3 rfl
    obtain ⟨ha0, hb0x⟩ := kA1234.at_ 0 rfl
    obtain ⟨ha1, hb1x⟩ := kA1234.at_ 1 rfl
    obtain ⟨ha2, hb2x⟩ := kA1234.at_ 2 rfl
    obtain ⟨ha3, hb3x⟩ := kA1234.at_ 3 rfl
    go_wp2_with fail
    have kF := (((kA1234.set_ 0 (.int .i64 2)).set_ 1 (.int .i64 x2)).set_ 2 (.int .i64 0)).set_ 3 (.int .i64 x4)
    obtain ⟨hr0, -⟩ := kF.at_ 0 rfl
    obtain ⟨hr1, -⟩ := kF.at_ 1 rfl
    obtain ⟨hr2, -⟩ := kF.at_ 2 rfl
    obtain ⟨hr3, -⟩ := kF.at_ 3 rfl
    exact bodyPost_ret (v := .agg #[.int .i64 2, .int .i64 x2, .int .i64 0, .int .i64 x4]) (by simp [results, Tryz.results75, go_sem, hr0, hr1, hr2, hr3]) rfl ⟨⟨2, x2, 0, x4⟩, by unfold SmallI; simp only; omega, rfl,
      ((((hcu12s34s.setFar (p := ⟨w.heap.size, 0, none⟩) hg _).setFar (p := ⟨w.heap.size, 1, none⟩) hg _).setFar (p := ⟨w.heap.size, 2, none⟩) hg _).setFar (p := ⟨w.heap.size, 3, none⟩) hg _),
      ((((ho1234.setNew (p := ⟨w.heap.size, 0, none⟩) (Nat.le_refl _) _).setNew (p := ⟨w.heap.size, 1, none⟩) (Nat.le_refl _) _).setNew (p := ⟨w.heap.size, 2, none⟩) (Nat.le_refl _) _).setNew (p := ⟨w.heap.size, 3, none⟩) (Nat.le_refl _) _)⟩
  · clear hop
    have kC := Bk.new w1 #[.int .i64 3, .int .i64 0, .int .i64 0, .int .i64 0] 37
    have kA := kA1.alloc (.cells #[.int .i64 3, .int .i64 0, .int .i64 0, .int .i64 0] 37)
    have hcu := hcu1.below ((Below.refl _ _).alloc (Nat.le_refl _) (.cells #[.int .i64 3, .int .i64 0, .int .i64 0, .int .i64 0] 37))
    have ho := hot1.alloc (.cells #[.int .i64 3, .int .i64 0, .int .i64 0, .int .i64 0] 37)
    clear kA1 hcu1 hot1
    obtain ⟨hx0, hf0⟩ := kC.at_ 0 rfl
    obtain ⟨hx1, hf1⟩ := kC.at_ 1 rfl
    obtain ⟨hx2, hf2⟩ := kC.at_ 2 rfl
    obtain ⟨hx3, hf3⟩ := kC.at_ 3 rfl
    go_wp2_with fail
    refine (l02Named 3 114 _).mono ?_
    rintro e z1 ⟨rfl, hb1⟩
    rw [show namedF 3 114 = true from rfl]
    have kC1 := kC.below hb1 kC.lt
    have kA1 := kA.below hb1 kA.lt
    have hcu1 := hcu.below hb1
    have ho1 := ho.thenBelow hb1 ho.size
    clear hx0 hf0 hx1 hf1 hx2 hf2 hx3 hf3 kC kA hcu ho
    obtain ⟨hx0, hf0⟩ := kC1.at_ 0 rfl
    obtain ⟨hx1, hf1⟩ := kC1.at_ 1 rfl
    obtain ⟨hx2, hf2⟩ := kC1.at_ 2 rfl
    obtain ⟨hx3, hf3⟩ := kC1.at_ 3 rfl
    go_wp2_with fail
    refine (l01Below g 3 _ hcu1 (WalkArith.wf_i64 (by omega))).mono ?_
    rintro e z2 ⟨x2, hxx2, rfl, hcu12, hoo2⟩
    have hxr2 : 0 ≤ x2 ∧ x2 ≤ 2 := by omega
    have kC12 := (kC1.only hoo2 (by simp; omega)).set_ 1 (.int .i64 x2)
    have kC12o := kC1.only hoo2 (by simp; omega)
    have kA12 := (kA1.only hoo2 (by simp; omega)).far (p := ⟨w1.heap.size, 1, none⟩) (by show w.heap.size ≠ w1.heap.size; omega) (.int .i64 x2)
    have hcu12s := hcu12.setFar (p := ⟨w1.heap.size, 1, none⟩) (by show g < w1.heap.size; omega) (.int .i64 x2)
    have ho12 := (ho1.trans hoo2).setNew (p := ⟨w1.heap.size, 1, none⟩) (by show w.heap.size ≤ w1.heap.size; omega) (.int .i64 x2)
    clear hxx2 hx0 hf0 hx1 hf1 hx2 hf2 hx3 hf3
    obtain ⟨hy2x0, hg2x0⟩ := kC12o.at_ 0 rfl
    obtain ⟨hy2x1, hg2x1⟩ := kC12o.at_ 1 rfl
    obtain ⟨hy2x2, hg2x2⟩ := kC12o.at_ 2 rfl
    obtain ⟨hy2x3, hg2x3⟩ := kC12o.at_ 3 rfl
    clear kC1 kA1 hcu1 ho1 hoo2 hcu12 kC12o
    obtain ⟨hx0, hf0⟩ := kC12.at_ 0 rfl
    obtain ⟨hx1, hf1⟩ := kC12.at_ 1 rfl
    obtain ⟨hx2, hf2⟩ := kC12.at_ 2 rfl
    obtain ⟨hx3, hf3⟩ := kC12.at_ 3 rfl
    go_wp2_with fail
    refine (l02Named 3 115 _).mono ?_
    rintro e z3 ⟨rfl, hb3⟩
    rw [show namedF 3 115 = false from rfl]
    have kC123 := kC12.below hb3 kC12.lt
    have kA123 := kA12.below hb3 kA12.lt
    have hcu12s3 := hcu12s.below hb3
    have ho123 := ho12.thenBelow hb3 ho12.size
    clear hx0 hf0 hx1 hf1 hx2 hf2 hx3 hf3 kC12 kA12 hcu12s ho12
    obtain ⟨hx0, hf0⟩ := kC123.at_ 0 rfl
    obtain ⟨hx1, hf1⟩ := kC123.at_ 1 rfl
    obtain ⟨hx2, hf2⟩ := kC123.at_ 2 rfl
    obtain ⟨hx3, hf3⟩ := kC123.at_ 3 rfl
    go_wp2_with fail
    refine (l01Below g cells _ hcu12s3 (WalkArith.wf_i64 (by omega))).mono ?_
    rintro e z4 ⟨x4, hxx4, rfl, hcu12s34, hoo4⟩
    have hxr4 : -1 ≤ x4 ∧ x4 ≤ 1000 := by omega
    have kC1234 := (kC123.only hoo4 (by simp; omega)).set_ 3 (.int .i64 x4)
    have kC1234o := kC123.only hoo4 (by simp; omega)
    have kA1234 := (kA123.only hoo4 (by simp; omega)).far (p := ⟨w1.heap.size, 3, none⟩) (by show w.heap.size ≠ w1.heap.size; omega) (.int .i64 x4)
    have hcu12s34s := hcu12s34.setFar (p := ⟨w1.heap.size, 3, none⟩) (by show g < w1.heap.size; omega) (.int .i64 x4)
    have ho1234 := (ho123.trans hoo4).setNew (p := ⟨w1.heap.size, 3, none⟩) (by show w.heap.size ≤ w1.heap.size; omega) (.int .i64 x4)
    clear hxx4 hx0 hf0 hx1 hf1 hx2 hf2 hx3 hf3
    obtain ⟨hy4x0, hg4x0⟩ := kC1234o.at_ 0 rfl
    obtain ⟨hy4x1, hg4x1⟩ := kC1234o.at_ 1 rfl
    obtain ⟨hy4x2, hg4x2⟩ := kC1234o.at_ 2 rfl
    obtain ⟨hy4x3, hg4x3⟩ := kC1234o.at_ 3 rfl
    clear kC123 kA123 hcu12s3 ho123 hoo4 hcu12s34 kC1234o
    obtain ⟨he0, hh0⟩ := kC1234.at_ 0 rfl
    obtain ⟨he1, hh1⟩ := kC1234.at_ 1 rfl
    obtain ⟨he2, hh2⟩ := kC1234.at_ 2 rfl
    obtain ⟨he3, hh3⟩ := kC1234.at_ 3 rfl
    obtain ⟨ha0, hb0x⟩ := kA1234.at_ 0 rfl
    obtain ⟨ha1, hb1x⟩ := kA1234.at_ 1 rfl
    obtain ⟨ha2, hb2x⟩ := kA1234.at_ 2 rfl
    obtain ⟨ha3, hb3x⟩ := kA1234.at_ 3 rfl
    go_wp2_with fail
    have kF := (((kA1234.set_ 0 (.int .i64 3)).set_ 1 (.int .i64 x2)).set_ 2 (.int .i64 0)).set_ 3 (.int .i64 x4)
    obtain ⟨hr0, -⟩ := kF.at_ 0 rfl
    obtain ⟨hr1, -⟩ := kF.at_ 1 rfl
    obtain ⟨hr2, -⟩ := kF.at_ 2 rfl
    obtain ⟨hr3, -⟩ := kF.at_ 3 rfl
    exact bodyPost_ret (v := .agg #[.int .i64 3, .int .i64 x2, .int .i64 0, .int .i64 x4]) (by simp [results, Tryz.results75, go_sem, hr0, hr1, hr2, hr3]) rfl ⟨⟨3, x2, 0, x4⟩, by unfold SmallI; simp only; omega, rfl,
      ((((hcu12s34s.setFar (p := ⟨w.heap.size, 0, none⟩) hg _).setFar (p := ⟨w.heap.size, 1, none⟩) hg _).setFar (p := ⟨w.heap.size, 2, none⟩) hg _).setFar (p := ⟨w.heap.size, 3, none⟩) hg _),
      ((((ho1234.setNew (p := ⟨w.heap.size, 0, none⟩) (Nat.le_refl _) _).setNew (p := ⟨w.heap.size, 1, none⟩) (Nat.le_refl _) _).setNew (p := ⟨w.heap.size, 2, none⟩) (Nat.le_refl _) _).setNew (p := ⟨w.heap.size, 3, none⟩) (Nat.le_refl _) _)⟩
  · clear hop
    have kC := Bk.new w1 #[.int .i64 4, .int .i64 0, .int .i64 0, .int .i64 0] 37
    have kA := kA1.alloc (.cells #[.int .i64 4, .int .i64 0, .int .i64 0, .int .i64 0] 37)
    have hcu := hcu1.below ((Below.refl _ _).alloc (Nat.le_refl _) (.cells #[.int .i64 4, .int .i64 0, .int .i64 0, .int .i64 0] 37))
    have ho := hot1.alloc (.cells #[.int .i64 4, .int .i64 0, .int .i64 0, .int .i64 0] 37)
    clear kA1 hcu1 hot1
    obtain ⟨hx0, hf0⟩ := kC.at_ 0 rfl
    obtain ⟨hx1, hf1⟩ := kC.at_ 1 rfl
    obtain ⟨hx2, hf2⟩ := kC.at_ 2 rfl
    obtain ⟨hx3, hf3⟩ := kC.at_ 3 rfl
    go_wp2_with fail
    refine (l02Named 4 114 _).mono ?_
    rintro e z1 ⟨rfl, hb1⟩
    rw [show namedF 4 114 = false from rfl]
    have kC1 := kC.below hb1 kC.lt
    have kA1 := kA.below hb1 kA.lt
    have hcu1 := hcu.below hb1
    have ho1 := ho.thenBelow hb1 ho.size
    clear hx0 hf0 hx1 hf1 hx2 hf2 hx3 hf3 kC kA hcu ho
    obtain ⟨hx0, hf0⟩ := kC1.at_ 0 rfl
    obtain ⟨hx1, hf1⟩ := kC1.at_ 1 rfl
    obtain ⟨hx2, hf2⟩ := kC1.at_ 2 rfl
    obtain ⟨hx3, hf3⟩ := kC1.at_ 3 rfl
    go_wp2_with fail
    refine (l02Named 4 115 _).mono ?_
    rintro e z2 ⟨rfl, hb2⟩
    rw [show namedF 4 115 = false from rfl]
    have kC12 := kC1.below hb2 kC1.lt
    have kA12 := kA1.below hb2 kA1.lt
    have hcu12 := hcu1.below hb2
    have ho12 := ho1.thenBelow hb2 ho1.size
    clear hx0 hf0 hx1 hf1 hx2 hf2 hx3 hf3 kC1 kA1 hcu1 ho1
    obtain ⟨he0, hh0⟩ := kC12.at_ 0 rfl
    obtain ⟨he1, hh1⟩ := kC12.at_ 1 rfl
    obtain ⟨he2, hh2⟩ := kC12.at_ 2 rfl
    obtain ⟨he3, hh3⟩ := kC12.at_ 3 rfl
    obtain ⟨ha0, hb0x⟩ := kA12.at_ 0 rfl
    obtain ⟨ha1, hb1x⟩ := kA12.at_ 1 rfl
    obtain ⟨ha2, hb2x⟩ := kA12.at_ 2 rfl
    obtain ⟨ha3, hb3x⟩ := kA12.at_ 3 rfl
    go_wp2_with fail
    have kF := (((kA12.set_ 0 (.int .i64 4)).set_ 1 (.int .i64 0)).set_ 2 (.int .i64 0)).set_ 3 (.int .i64 0)
    obtain ⟨hr0, -⟩ := kF.at_ 0 rfl
    obtain ⟨hr1, -⟩ := kF.at_ 1 rfl
    obtain ⟨hr2, -⟩ := kF.at_ 2 rfl
    obtain ⟨hr3, -⟩ := kF.at_ 3 rfl
    exact bodyPost_ret (v := .agg #[.int .i64 4, .int .i64 0, .int .i64 0, .int .i64 0]) (by simp [results, Tryz.results75, go_sem, hr0, hr1, hr2, hr3]) rfl ⟨⟨4, 0, 0, 0⟩, by unfold SmallI; simp only; omega, rfl,
      ((((hcu12.setFar (p := ⟨w.heap.size, 0, none⟩) hg _).setFar (p := ⟨w.heap.size, 1, none⟩) hg _).setFar (p := ⟨w.heap.size, 2, none⟩) hg _).setFar (p := ⟨w.heap.size, 3, none⟩) hg _),
      ((((ho12.setNew (p := ⟨w.heap.size, 0, none⟩) (Nat.le_refl _) _).setNew (p := ⟨w.heap.size, 1, none⟩) (Nat.le_refl _) _).setNew (p := ⟨w.heap.size, 2, none⟩) (Nat.le_refl _) _).setNew (p := ⟨w.heap.size, 3, none⟩) (Nat.le_refl _) _)⟩
  · clear hop
    have kC := Bk.new w1 #[.int .i64 5, .int .i64 0, .int .i64 0, .int .i64 0] 37
    have kA := kA1.alloc (.cells #[.int .i64 5, .int .i64 0, .int .i64 0, .int .i64 0] 37)
    have hcu := hcu1.below ((Below.refl _ _).alloc (Nat.le_refl _) (.cells #[.int .i64 5, .int .i64 0, .int .i64 0, .int .i64 0] 37))
    have ho := hot1.alloc (.cells #[.int .i64 5, .int .i64 0, .int .i64 0, .int .i64 0] 37)
    clear kA1 hcu1 hot1
    obtain ⟨hx0, hf0⟩ := kC.at_ 0 rfl
    obtain ⟨hx1, hf1⟩ := kC.at_ 1 rfl
    obtain ⟨hx2, hf2⟩ := kC.at_ 2 rfl
    obtain ⟨hx3, hf3⟩ := kC.at_ 3 rfl
    go_wp2_with fail
    refine (l02Named 5 114 _).mono ?_
    rintro e z1 ⟨rfl, hb1⟩
    rw [show namedF 5 114 = true from rfl]
    have kC1 := kC.below hb1 kC.lt
    have kA1 := kA.below hb1 kA.lt
    have hcu1 := hcu.below hb1
    have ho1 := ho.thenBelow hb1 ho.size
    clear hx0 hf0 hx1 hf1 hx2 hf2 hx3 hf3 kC kA hcu ho
    obtain ⟨hx0, hf0⟩ := kC1.at_ 0 rfl
    obtain ⟨hx1, hf1⟩ := kC1.at_ 1 rfl
    obtain ⟨hx2, hf2⟩ := kC1.at_ 2 rfl
    obtain ⟨hx3, hf3⟩ := kC1.at_ 3 rfl
    go_wp2_with fail
    refine (l01Below g 3 _ hcu1 (WalkArith.wf_i64 (by omega))).mono ?_
    rintro e z2 ⟨x2, hxx2, rfl, hcu12, hoo2⟩
    have hxr2 : 0 ≤ x2 ∧ x2 ≤ 2 := by omega
    have kC12 := (kC1.only hoo2 (by simp; omega)).set_ 1 (.int .i64 x2)
    have kC12o := kC1.only hoo2 (by simp; omega)
    have kA12 := (kA1.only hoo2 (by simp; omega)).far (p := ⟨w1.heap.size, 1, none⟩) (by show w.heap.size ≠ w1.heap.size; omega) (.int .i64 x2)
    have hcu12s := hcu12.setFar (p := ⟨w1.heap.size, 1, none⟩) (by show g < w1.heap.size; omega) (.int .i64 x2)
    have ho12 := (ho1.trans hoo2).setNew (p := ⟨w1.heap.size, 1, none⟩) (by show w.heap.size ≤ w1.heap.size; omega) (.int .i64 x2)
    clear hxx2 hx0 hf0 hx1 hf1 hx2 hf2 hx3 hf3
    obtain ⟨hy2x0, hg2x0⟩ := kC12o.at_ 0 rfl
    obtain ⟨hy2x1, hg2x1⟩ := kC12o.at_ 1 rfl
    obtain ⟨hy2x2, hg2x2⟩ := kC12o.at_ 2 rfl
    obtain ⟨hy2x3, hg2x3⟩ := kC12o.at_ 3 rfl
    clear kC1 kA1 hcu1 ho1 hoo2 hcu12 kC12o
    obtain ⟨hx0, hf0⟩ := kC12.at_ 0 rfl
    obtain ⟨hx1, hf1⟩ := kC12.at_ 1 rfl
    obtain ⟨hx2, hf2⟩ := kC12.at_ 2 rfl
    obtain ⟨hx3, hf3⟩ := kC12.at_ 3 rfl
    go_wp2_with fail
    refine (l02Named 5 115 _).mono ?_
    rintro e z3 ⟨rfl, hb3⟩
    rw [show namedF 5 115 = true from rfl]
    have kC123 := kC12.below hb3 kC12.lt
    have kA123 := kA12.below hb3 kA12.lt
    have hcu12s3 := hcu12s.below hb3
    have ho123 := ho12.thenBelow hb3 ho12.size
    clear hx0 hf0 hx1 hf1 hx2 hf2 hx3 hf3 kC12 kA12 hcu12s ho12
    obtain ⟨hx0, hf0⟩ := kC123.at_ 0 rfl
    obtain ⟨hx1, hf1⟩ := kC123.at_ 1 rfl
    obtain ⟨hx2, hf2⟩ := kC123.at_ 2 rfl
    obtain ⟨hx3, hf3⟩ := kC123.at_ 3 rfl
    go_wp2_with fail
    refine (l01Below g 3 _ hcu12s3 (WalkArith.wf_i64 (by omega))).mono ?_
    rintro e z4 ⟨x4, hxx4, rfl, hcu12s34, hoo4⟩
    have hxr4 : 0 ≤ x4 ∧ x4 ≤ 2 := by omega
    have kC1234 := (kC123.only hoo4 (by simp; omega)).set_ 2 (.int .i64 x4)
    have kC1234o := kC123.only hoo4 (by simp; omega)
    have kA1234 := (kA123.only hoo4 (by simp; omega)).far (p := ⟨w1.heap.size, 2, none⟩) (by show w.heap.size ≠ w1.heap.size; omega) (.int .i64 x4)
    have hcu12s34s := hcu12s34.setFar (p := ⟨w1.heap.size, 2, none⟩) (by show g < w1.heap.size; omega) (.int .i64 x4)
    have ho1234 := (ho123.trans hoo4).setNew (p := ⟨w1.heap.size, 2, none⟩) (by show w.heap.size ≤ w1.heap.size; omega) (.int .i64 x4)
    clear hxx4 hx0 hf0 hx1 hf1 hx2 hf2 hx3 hf3
    obtain ⟨hy4x0, hg4x0⟩ := kC1234o.at_ 0 rfl
    obtain ⟨hy4x1, hg4x1⟩ := kC1234o.at_ 1 rfl
    obtain ⟨hy4x2, hg4x2⟩ := kC1234o.at_ 2 rfl
    obtain ⟨hy4x3, hg4x3⟩ := kC1234o.at_ 3 rfl
    clear kC123 kA123 hcu12s3 ho123 hoo4 hcu12s34 kC1234o
    obtain ⟨hx0, hf0⟩ := kC1234.at_ 0 rfl
    obtain ⟨hx1, hf1⟩ := kC1234.at_ 1 rfl
    obtain ⟨hx2, hf2⟩ := kC1234.at_ 2 rfl
    obtain ⟨hx3, hf3⟩ := kC1234.at_ 3 rfl
    go_wp2_with fail
    refine (l01Below g cells _ hcu12s34s (WalkArith.wf_i64 (by omega))).mono ?_
    rintro e z5 ⟨x5, hxx5, rfl, hcu12s34s5, hoo5⟩
    have hxr5 : -1 ≤ x5 ∧ x5 ≤ 1000 := by omega
    have kC12345 := (kC1234.only hoo5 (by simp; omega)).set_ 3 (.int .i64 x5)
    have kC12345o := kC1234.only hoo5 (by simp; omega)
    have kA12345 := (kA1234.only hoo5 (by simp; omega)).far (p := ⟨w1.heap.size, 3, none⟩) (by show w.heap.size ≠ w1.heap.size; omega) (.int .i64 x5)
    have hcu12s34s5s := hcu12s34s5.setFar (p := ⟨w1.heap.size, 3, none⟩) (by show g < w1.heap.size; omega) (.int .i64 x5)
    have ho12345 := (ho1234.trans hoo5).setNew (p := ⟨w1.heap.size, 3, none⟩) (by show w.heap.size ≤ w1.heap.size; omega) (.int .i64 x5)
    clear hxx5 hx0 hf0 hx1 hf1 hx2 hf2 hx3 hf3
    obtain ⟨hy5x0, hg5x0⟩ := kC12345o.at_ 0 rfl
    obtain ⟨hy5x1, hg5x1⟩ := kC12345o.at_ 1 rfl
    obtain ⟨hy5x2, hg5x2⟩ := kC12345o.at_ 2 rfl
    obtain ⟨hy5x3, hg5x3⟩ := kC12345o.at_ 3 rfl
    clear kC1234 kA1234 hcu12s34s ho1234 hoo5 hcu12s34s5 kC12345o
    obtain ⟨he0, hh0⟩ := kC12345.at_ 0 rfl
    obtain ⟨he1, hh1⟩ := kC12345.at_ 1 rfl
    obtain ⟨he2, hh2⟩ := kC12345.at_ 2 rfl
    obtain ⟨he3, hh3⟩ := kC12345.at_ 3 rfl
    obtain ⟨ha0, hb0x⟩ := kA12345.at_ 0 rfl
    obtain ⟨ha1, hb1x⟩ := kA12345.at_ 1 rfl
    obtain ⟨ha2, hb2x⟩ := kA12345.at_ 2 rfl
    obtain ⟨ha3, hb3x⟩ := kA12345.at_ 3 rfl
    go_wp2_with fail
    have kF := (((kA12345.set_ 0 (.int .i64 5)).set_ 1 (.int .i64 x2)).set_ 2 (.int .i64 x4)).set_ 3 (.int .i64 x5)
    obtain ⟨hr0, -⟩ := kF.at_ 0 rfl
    obtain ⟨hr1, -⟩ := kF.at_ 1 rfl
    obtain ⟨hr2, -⟩ := kF.at_ 2 rfl
    obtain ⟨hr3, -⟩ := kF.at_ 3 rfl
    exact bodyPost_ret (v := .agg #[.int .i64 5, .int .i64 x2, .int .i64 x4, .int .i64 x5]) (by simp [results, Tryz.results75, go_sem, hr0, hr1, hr2, hr3]) rfl ⟨⟨5, x2, x4, x5⟩, by unfold SmallI; simp only; omega, rfl,
      ((((hcu12s34s5s.setFar (p := ⟨w.heap.size, 0, none⟩) hg _).setFar (p := ⟨w.heap.size, 1, none⟩) hg _).setFar (p := ⟨w.heap.size, 2, none⟩) hg _).setFar (p := ⟨w.heap.size, 3, none⟩) hg _),
      ((((ho12345.setNew (p := ⟨w.heap.size, 0, none⟩) (Nat.le_refl _) _).setNew (p := ⟨w.heap.size, 1, none⟩) (Nat.le_refl _) _).setNew (p := ⟨w.heap.size, 2, none⟩) (Nat.le_refl _) _).setNew (p := ⟨w.heap.size, 3, none⟩) (Nat.le_refl _) _)⟩
  · clear hop
    have kC := Bk.new w1 #[.int .i64 6, .int .i64 0, .int .i64 0, .int .i64 0] 37
    have kA := kA1.alloc (.cells #[.int .i64 6, .int .i64 0, .int .i64 0, .int .i64 0] 37)
    have hcu := hcu1.below ((Below.refl _ _).alloc (Nat.le_refl _) (.cells #[.int .i64 6, .int .i64 0, .int .i64 0, .int .i64 0] 37))
    have ho := hot1.alloc (.cells #[.int .i64 6, .int .i64 0, .int .i64 0, .int .i64 0] 37)
    clear kA1 hcu1 hot1
    obtain ⟨hx0, hf0⟩ := kC.at_ 0 rfl
    obtain ⟨hx1, hf1⟩ := kC.at_ 1 rfl
    obtain ⟨hx2, hf2⟩ := kC.at_ 2 rfl
    obtain ⟨hx3, hf3⟩ := kC.at_ 3 rfl
    go_wp2_with fail
    refine (l02Named 6 114 _).mono ?_
    rintro e z1 ⟨rfl, hb1⟩
    rw [show namedF 6 114 = true from rfl]
    have kC1 := kC.below hb1 kC.lt
    have kA1 := kA.below hb1 kA.lt
    have hcu1 := hcu.below hb1
    have ho1 := ho.thenBelow hb1 ho.size
    clear hx0 hf0 hx1 hf1 hx2 hf2 hx3 hf3 kC kA hcu ho
    obtain ⟨hx0, hf0⟩ := kC1.at_ 0 rfl
    obtain ⟨hx1, hf1⟩ := kC1.at_ 1 rfl
    obtain ⟨hx2, hf2⟩ := kC1.at_ 2 rfl
    obtain ⟨hx3, hf3⟩ := kC1.at_ 3 rfl
    go_wp2_with fail
    refine (l01Below g 3 _ hcu1 (WalkArith.wf_i64 (by omega))).mono ?_
    rintro e z2 ⟨x2, hxx2, rfl, hcu12, hoo2⟩
    have hxr2 : 0 ≤ x2 ∧ x2 ≤ 2 := by omega
    have kC12 := (kC1.only hoo2 (by simp; omega)).set_ 1 (.int .i64 x2)
    have kC12o := kC1.only hoo2 (by simp; omega)
    have kA12 := (kA1.only hoo2 (by simp; omega)).far (p := ⟨w1.heap.size, 1, none⟩) (by show w.heap.size ≠ w1.heap.size; omega) (.int .i64 x2)
    have hcu12s := hcu12.setFar (p := ⟨w1.heap.size, 1, none⟩) (by show g < w1.heap.size; omega) (.int .i64 x2)
    have ho12 := (ho1.trans hoo2).setNew (p := ⟨w1.heap.size, 1, none⟩) (by show w.heap.size ≤ w1.heap.size; omega) (.int .i64 x2)
    clear hxx2 hx0 hf0 hx1 hf1 hx2 hf2 hx3 hf3
    obtain ⟨hy2x0, hg2x0⟩ := kC12o.at_ 0 rfl
    obtain ⟨hy2x1, hg2x1⟩ := kC12o.at_ 1 rfl
    obtain ⟨hy2x2, hg2x2⟩ := kC12o.at_ 2 rfl
    obtain ⟨hy2x3, hg2x3⟩ := kC12o.at_ 3 rfl
    clear kC1 kA1 hcu1 ho1 hoo2 hcu12 kC12o
    obtain ⟨hx0, hf0⟩ := kC12.at_ 0 rfl
    obtain ⟨hx1, hf1⟩ := kC12.at_ 1 rfl
    obtain ⟨hx2, hf2⟩ := kC12.at_ 2 rfl
    obtain ⟨hx3, hf3⟩ := kC12.at_ 3 rfl
    go_wp2_with fail
    refine (l02Named 6 115 _).mono ?_
    rintro e z3 ⟨rfl, hb3⟩
    rw [show namedF 6 115 = false from rfl]
    have kC123 := kC12.below hb3 kC12.lt
    have kA123 := kA12.below hb3 kA12.lt
    have hcu12s3 := hcu12s.below hb3
    have ho123 := ho12.thenBelow hb3 ho12.size
    clear hx0 hf0 hx1 hf1 hx2 hf2 hx3 hf3 kC12 kA12 hcu12s ho12
    obtain ⟨hx0, hf0⟩ := kC123.at_ 0 rfl
    obtain ⟨hx1, hf1⟩ := kC123.at_ 1 rfl
    obtain ⟨hx2, hf2⟩ := kC123.at_ 2 rfl
    obtain ⟨hx3, hf3⟩ := kC123.at_ 3 rfl
    go_wp2_with fail
    refine (l01Below g (size + 1) _ hcu12s3 (WalkArith.wf_i64 (by omega))).mono ?_
    rintro e z4 ⟨x4, hxx4, rfl, hcu12s34, hoo4⟩
    have hxr4 : -1 ≤ x4 ∧ x4 ≤ 1000 := by omega
    have kC1234 := (kC123.only hoo4 (by simp; omega)).set_ 3 (.int .i64 x4)
    have kC1234o := kC123.only hoo4 (by simp; omega)
    have kA1234 := (kA123.only hoo4 (by simp; omega)).far (p := ⟨w1.heap.size, 3, none⟩) (by show w.heap.size ≠ w1.heap.size; omega) (.int .i64 x4)
    have hcu12s34s := hcu12s34.setFar (p := ⟨w1.heap.size, 3, none⟩) (by show g < w1.heap.size; omega) (.int .i64 x4)
    have ho1234 := (ho123.trans hoo4).setNew (p := ⟨w1.heap.size, 3, none⟩) (by show w.heap.size ≤ w1.heap.size; omega) (.int .i64 x4)
    clear hxx4 hx0 hf0 hx1 hf1 hx2 hf2 hx3 hf3
    obtain ⟨hy4x0, hg4x0⟩ := kC1234o.at_ 0 rfl
    obtain ⟨hy4x1, hg4x1⟩ := kC1234o.at_ 1 rfl
    obtain ⟨hy4x2, hg4x2⟩ := kC1234o.at_ 2 rfl
    obtain ⟨hy4x3, hg4x3⟩ := kC1234o.at_ 3 rfl
    clear kC123 kA123 hcu12s3 ho123 hoo4 hcu12s34 kC1234o
    obtain ⟨he0, hh0⟩ := kC1234.at_ 0 rfl
    obtain ⟨he1, hh1⟩ := kC1234.at_ 1 rfl
    obtain ⟨he2, hh2⟩ := kC1234.at_ 2 rfl
    obtain ⟨he3, hh3⟩ := kC1234.at_ 3 rfl
    obtain ⟨ha0, hb0x⟩ := kA1234.at_ 0 rfl
    obtain ⟨ha1, hb1x⟩ := kA1234.at_ 1 rfl
    obtain ⟨ha2, hb2x⟩ := kA1234.at_ 2 rfl
    obtain ⟨ha3, hb3x⟩ := kA1234.at_ 3 rfl
    go_wp2_with fail
    have kF := (((kA1234.set_ 0 (.int .i64 6)).set_ 1 (.int .i64 x2)).set_ 2 (.int .i64 0)).set_ 3 (.int .i64 x4)
    obtain ⟨hr0, -⟩ := kF.at_ 0 rfl
    obtain ⟨hr1, -⟩ := kF.at_ 1 rfl
    obtain ⟨hr2, -⟩ := kF.at_ 2 rfl
    obtain ⟨hr3, -⟩ := kF.at_ 3 rfl
    exact bodyPost_ret (v := .agg #[.int .i64 6, .int .i64 x2, .int .i64 0, .int .i64 x4]) (by simp [results, Tryz.results75, go_sem, hr0, hr1, hr2, hr3]) rfl ⟨⟨6, x2, 0, x4⟩, by unfold SmallI; simp only; omega, rfl,
      ((((hcu12s34s.setFar (p := ⟨w.heap.size, 0, none⟩) hg _).setFar (p := ⟨w.heap.size, 1, none⟩) hg _).setFar (p := ⟨w.heap.size, 2, none⟩) hg _).setFar (p := ⟨w.heap.size, 3, none⟩) hg _),
      ((((ho1234.setNew (p := ⟨w.heap.size, 0, none⟩) (Nat.le_refl _) _).setNew (p := ⟨w.heap.size, 1, none⟩) (Nat.le_refl _) _).setNew (p := ⟨w.heap.size, 2, none⟩) (Nat.le_refl _) _).setNew (p := ⟨w.heap.size, 3, none⟩) (Nat.le_refl _) _)⟩
  · clear hop
    have kC := Bk.new w1 #[.int .i64 7, .int .i64 0, .int .i64 0, .int .i64 0] 37
    have kA := kA1.alloc (.cells #[.int .i64 7, .int .i64 0, .int .i64 0, .int .i64 0] 37)
    have hcu := hcu1.below ((Below.refl _ _).alloc (Nat.le_refl _) (.cells #[.int .i64 7, .int .i64 0, .int .i64 0, .int .i64 0] 37))
    have ho := hot1.alloc (.cells #[.int .i64 7, .int .i64 0, .int .i64 0, .int .i64 0] 37)
    clear kA1 hcu1 hot1
    obtain ⟨hx0, hf0⟩ := kC.at_ 0 rfl
    obtain ⟨hx1, hf1⟩ := kC.at_ 1 rfl
    obtain ⟨hx2, hf2⟩ := kC.at_ 2 rfl
    obtain ⟨hx3, hf3⟩ := kC.at_ 3 rfl
    go_wp2_with fail
    refine (l02Named 7 114 _).mono ?_
    rintro e z1 ⟨rfl, hb1⟩
    rw [show namedF 7 114 = true from rfl]
    have kC1 := kC.below hb1 kC.lt
    have kA1 := kA.below hb1 kA.lt
    have hcu1 := hcu.below hb1
    have ho1 := ho.thenBelow hb1 ho.size
    clear hx0 hf0 hx1 hf1 hx2 hf2 hx3 hf3 kC kA hcu ho
    obtain ⟨hx0, hf0⟩ := kC1.at_ 0 rfl
    obtain ⟨hx1, hf1⟩ := kC1.at_ 1 rfl
    obtain ⟨hx2, hf2⟩ := kC1.at_ 2 rfl
    obtain ⟨hx3, hf3⟩ := kC1.at_ 3 rfl
    go_wp2_with fail
    refine (l01Below g 3 _ hcu1 (WalkArith.wf_i64 (by omega))).mono ?_
    rintro e z2 ⟨x2, hxx2, rfl, hcu12, hoo2⟩
    have hxr2 : 0 ≤ x2 ∧ x2 ≤ 2 := by omega
    have kC12 := (kC1.only hoo2 (by simp; omega)).set_ 1 (.int .i64 x2)
    have kC12o := kC1.only hoo2 (by simp; omega)
    have kA12 := (kA1.only hoo2 (by simp; omega)).far (p := ⟨w1.heap.size, 1, none⟩) (by show w.heap.size ≠ w1.heap.size; omega) (.int .i64 x2)
    have hcu12s := hcu12.setFar (p := ⟨w1.heap.size, 1, none⟩) (by show g < w1.heap.size; omega) (.int .i64 x2)
    have ho12 := (ho1.trans hoo2).setNew (p := ⟨w1.heap.size, 1, none⟩) (by show w.heap.size ≤ w1.heap.size; omega) (.int .i64 x2)
    clear hxx2 hx0 hf0 hx1 hf1 hx2 hf2 hx3 hf3
    obtain ⟨hy2x0, hg2x0⟩ := kC12o.at_ 0 rfl
    obtain ⟨hy2x1, hg2x1⟩ := kC12o.at_ 1 rfl
    obtain ⟨hy2x2, hg2x2⟩ := kC12o.at_ 2 rfl
    obtain ⟨hy2x3, hg2x3⟩ := kC12o.at_ 3 rfl
    clear kC1 kA1 hcu1 ho1 hoo2 hcu12 kC12o
    obtain ⟨hx0, hf0⟩ := kC12.at_ 0 rfl
    obtain ⟨hx1, hf1⟩ := kC12.at_ 1 rfl
    obtain ⟨hx2, hf2⟩ := kC12.at_ 2 rfl
    obtain ⟨hx3, hf3⟩ := kC12.at_ 3 rfl
    go_wp2_with fail
    refine (l02Named 7 115 _).mono ?_
    rintro e z3 ⟨rfl, hb3⟩
    rw [show namedF 7 115 = true from rfl]
    have kC123 := kC12.below hb3 kC12.lt
    have kA123 := kA12.below hb3 kA12.lt
    have hcu12s3 := hcu12s.below hb3
    have ho123 := ho12.thenBelow hb3 ho12.size
    clear hx0 hf0 hx1 hf1 hx2 hf2 hx3 hf3 kC12 kA12 hcu12s ho12
    obtain ⟨hx0, hf0⟩ := kC123.at_ 0 rfl
    obtain ⟨hx1, hf1⟩ := kC123.at_ 1 rfl
    obtain ⟨hx2, hf2⟩ := kC123.at_ 2 rfl
    obtain ⟨hx3, hf3⟩ := kC123.at_ 3 rfl
    go_wp2_with fail
    refine (l01Below g 3 _ hcu12s3 (WalkArith.wf_i64 (by omega))).mono ?_
    rintro e z4 ⟨x4, hxx4, rfl, hcu12s34, hoo4⟩
    have hxr4 : 0 ≤ x4 ∧ x4 ≤ 2 := by omega
    have kC1234 := (kC123.only hoo4 (by simp; omega)).set_ 2 (.int .i64 x4)
    have kC1234o := kC123.only hoo4 (by simp; omega)
    have kA1234 := (kA123.only hoo4 (by simp; omega)).far (p := ⟨w1.heap.size, 2, none⟩) (by show w.heap.size ≠ w1.heap.size; omega) (.int .i64 x4)
    have hcu12s34s := hcu12s34.setFar (p := ⟨w1.heap.size, 2, none⟩) (by show g < w1.heap.size; omega) (.int .i64 x4)
    have ho1234 := (ho123.trans hoo4).setNew (p := ⟨w1.heap.size, 2, none⟩) (by show w.heap.size ≤ w1.heap.size; omega) (.int .i64 x4)
    clear hxx4 hx0 hf0 hx1 hf1 hx2 hf2 hx3 hf3
    obtain ⟨hy4x0, hg4x0⟩ := kC1234o.at_ 0 rfl
    obtain ⟨hy4x1, hg4x1⟩ := kC1234o.at_ 1 rfl
    obtain ⟨hy4x2, hg4x2⟩ := kC1234o.at_ 2 rfl
    obtain ⟨hy4x3, hg4x3⟩ := kC1234o.at_ 3 rfl
    clear kC123 kA123 hcu12s3 ho123 hoo4 hcu12s34 kC1234o
    obtain ⟨hx0, hf0⟩ := kC1234.at_ 0 rfl
    obtain ⟨hx1, hf1⟩ := kC1234.at_ 1 rfl
    obtain ⟨hx2, hf2⟩ := kC1234.at_ 2 rfl
    obtain ⟨hx3, hf3⟩ := kC1234.at_ 3 rfl
    go_wp2_with fail
    refine (l01Below g cells _ hcu12s34s (WalkArith.wf_i64 (by omega))).mono ?_
    rintro e z5 ⟨x5, hxx5, rfl, hcu12s34s5, hoo5⟩
    have hxr5 : -1 ≤ x5 ∧ x5 ≤ 1000 := by omega
    have kC12345 := (kC1234.only hoo5 (by simp; omega)).set_ 3 (.int .i64 x5)
    have kC12345o := kC1234.only hoo5 (by simp; omega)
    have kA12345 := (kA1234.only hoo5 (by simp; omega)).far (p := ⟨w1.heap.size, 3, none⟩) (by show w.heap.size ≠ w1.heap.size; omega) (.int .i64 x5)
    have hcu12s34s5s := hcu12s34s5.setFar (p := ⟨w1.heap.size, 3, none⟩) (by show g < w1.heap.size; omega) (.int .i64 x5)
    have ho12345 := (ho1234.trans hoo5).setNew (p := ⟨w1.heap.size, 3, none⟩) (by show w.heap.size ≤ w1.heap.size; omega) (.int .i64 x5)
    clear hxx5 hx0 hf0 hx1 hf1 hx2 hf2 hx3 hf3
    obtain ⟨hy5x0, hg5x0⟩ := kC12345o.at_ 0 rfl
    obtain ⟨hy5x1, hg5x1⟩ := kC12345o.at_ 1 rfl
    obtain ⟨hy5x2, hg5x2⟩ := kC12345o.at_ 2 rfl
    obtain ⟨hy5x3, hg5x3⟩ := kC12345o.at_ 3 rfl
    clear kC1234 kA1234 hcu12s34s ho1234 hoo5 hcu12s34s5 kC12345o
    obtain ⟨he0, hh0⟩ := kC12345.at_ 0 rfl
    obtain ⟨he1, hh1⟩ := kC12345.at_ 1 rfl
    obtain ⟨he2, hh2⟩ := kC12345.at_ 2 rfl
    obtain ⟨he3, hh3⟩ := kC12345.at_ 3 rfl
    obtain ⟨ha0, hb0x⟩ := kA12345.at_ 0 rfl
    obtain ⟨ha1, hb1x⟩ := kA12345.at_ 1 rfl
    obtain ⟨ha2, hb2x⟩ := kA12345.at_ 2 rfl
    obtain ⟨ha3, hb3x⟩ := kA12345.at_ 3 rfl
    go_wp2_with fail
    have kF := (((kA12345.set_ 0 (.int .i64 7)).set_ 1 (.int .i64 x2)).set_ 2 (.int .i64 x4)).set_ 3 (.int .i64 x5)
    obtain ⟨hr0, -⟩ := kF.at_ 0 rfl
    obtain ⟨hr1, -⟩ := kF.at_ 1 rfl
    obtain ⟨hr2, -⟩ := kF.at_ 2 rfl
    obtain ⟨hr3, -⟩ := kF.at_ 3 rfl
    exact bodyPost_ret (v := .agg #[.int .i64 7, .int .i64 x2, .int .i64 x4, .int .i64 x5]) (by simp [results, Tryz.results75, go_sem, hr0, hr1, hr2, hr3]) rfl ⟨⟨7, x2, x4, x5⟩, by unfold SmallI; simp only; omega, rfl,
      ((((hcu12s34s5s.setFar (p := ⟨w.heap.size, 0, none⟩) hg _).setFar (p := ⟨w.heap.size, 1, none⟩) hg _).setFar (p := ⟨w.heap.size, 2, none⟩) hg _).setFar (p := ⟨w.heap.size, 3, none⟩) hg _),
      ((((ho12345.setNew (p := ⟨w.heap.size, 0, none⟩) (Nat.le_refl _) _).setNew (p := ⟨w.heap.size, 1, none⟩) (Nat.le_refl _) _).setNew (p := ⟨w.heap.size, 2, none⟩) (Nat.le_refl _) _).setNew (p := ⟨w.heap.size, 3, none⟩) (Nat.le_refl _) _)⟩
  · clear hop
    have kC := Bk.new w1 #[.int .i64 8, .int .i64 0, .int .i64 0, .int .i64 0] 37
    have kA := kA1.alloc (.cells #[.int .i64 8, .int .i64 0, .int .i64 0, .int .i64 0] 37)
    have hcu := hcu1.below ((Below.refl _ _).alloc (Nat.le_refl _) (.cells #[.int .i64 8, .int .i64 0, .int .i64 0, .int .i64 0] 37))
    have ho := hot1.alloc (.cells #[.int .i64 8, .int .i64 0, .int .i64 0, .int .i64 0] 37)
    clear kA1 hcu1 hot1
    obtain ⟨hx0, hf0⟩ := kC.at_ 0 rfl
    obtain ⟨hx1, hf1⟩ := kC.at_ 1 rfl
    obtain ⟨hx2, hf2⟩ := kC.at_ 2 rfl
    obtain ⟨hx3, hf3⟩ := kC.at_ 3 rfl
    go_wp2_with fail
    refine (l02Named 8 114 _).mono ?_
    rintro e z1 ⟨rfl, hb1⟩
    rw [show namedF 8 114 = true from rfl]
    have kC1 := kC.below hb1 kC.lt
    have kA1 := kA.below hb1 kA.lt
    have hcu1 := hcu.below hb1
    have ho1 := ho.thenBelow hb1 ho.size
    clear hx0 hf0 hx1 hf1 hx2 hf2 hx3 hf3 kC kA hcu ho
    obtain ⟨hx0, hf0⟩ := kC1.at_ 0 rfl
    obtain ⟨hx1, hf1⟩ := kC1.at_ 1 rfl
    obtain ⟨hx2, hf2⟩ := kC1.at_ 2 rfl
    obtain ⟨hx3, hf3⟩ := kC1.at_ 3 rfl
    go_wp2_with fail
    refine (l01Below g 3 _ hcu1 (WalkArith.wf_i64 (by omega))).mono ?_
    rintro e z2 ⟨x2, hxx2, rfl, hcu12, hoo2⟩
    have hxr2 : 0 ≤ x2 ∧ x2 ≤ 2 := by omega
    have kC12 := (kC1.only hoo2 (by simp; omega)).set_ 1 (.int .i64 x2)
    have kC12o := kC1.only hoo2 (by simp; omega)
    have kA12 := (kA1.only hoo2 (by simp; omega)).far (p := ⟨w1.heap.size, 1, none⟩) (by show w.heap.size ≠ w1.heap.size; omega) (.int .i64 x2)
    have hcu12s := hcu12.setFar (p := ⟨w1.heap.size, 1, none⟩) (by show g < w1.heap.size; omega) (.int .i64 x2)
    have ho12 := (ho1.trans hoo2).setNew (p := ⟨w1.heap.size, 1, none⟩) (by show w.heap.size ≤ w1.heap.size; omega) (.int .i64 x2)
    clear hxx2 hx0 hf0 hx1 hf1 hx2 hf2 hx3 hf3
    obtain ⟨hy2x0, hg2x0⟩ := kC12o.at_ 0 rfl
    obtain ⟨hy2x1, hg2x1⟩ := kC12o.at_ 1 rfl
    obtain ⟨hy2x2, hg2x2⟩ := kC12o.at_ 2 rfl
    obtain ⟨hy2x3, hg2x3⟩ := kC12o.at_ 3 rfl
    clear kC1 kA1 hcu1 ho1 hoo2 hcu12 kC12o
    obtain ⟨hx0, hf0⟩ := kC12.at_ 0 rfl
    obtain ⟨hx1, hf1⟩ := kC12.at_ 1 rfl
    obtain ⟨hx2, hf2⟩ := kC12.at_ 2 rfl
    obtain ⟨hx3, hf3⟩ := kC12.at_ 3 rfl
    go_wp2_with fail
    refine (l02Named 8 115 _).mono ?_
    rintro e z3 ⟨rfl, hb3⟩
    rw [show namedF 8 115 = true from rfl]
    have kC123 := kC12.below hb3 kC12.lt
    have kA123 := kA12.below hb3 kA12.lt
    have hcu12s3 := hcu12s.below hb3
    have ho123 := ho12.thenBelow hb3 ho12.size
    clear hx0 hf0 hx1 hf1 hx2 hf2 hx3 hf3 kC12 kA12 hcu12s ho12
    obtain ⟨hx0, hf0⟩ := kC123.at_ 0 rfl
    obtain ⟨hx1, hf1⟩ := kC123.at_ 1 rfl
    obtain ⟨hx2, hf2⟩ := kC123.at_ 2 rfl
    obtain ⟨hx3, hf3⟩ := kC123.at_ 3 rfl
    go_wp2_with fail
    refine (l01Below g 3 _ hcu12s3 (WalkArith.wf_i64 (by omega))).mono ?_
    rintro e z4 ⟨x4, hxx4, rfl, hcu12s34, hoo4⟩
    have hxr4 : 0 ≤ x4 ∧ x4 ≤ 2 := by omega
    have kC1234 := (kC123.only hoo4 (by simp; omega)).set_ 2 (.int .i64 x4)
    have kC1234o := kC123.only hoo4 (by simp; omega)
    have kA1234 := (kA123.only hoo4 (by simp; omega)).far (p := ⟨w1.heap.size, 2, none⟩) (by show w.heap.size ≠ w1.heap.size; omega) (.int .i64 x4)
    have hcu12s34s := hcu12s34.setFar (p := ⟨w1.heap.size, 2, none⟩) (by show g < w1.heap.size; omega) (.int .i64 x4)
    have ho1234 := (ho123.trans hoo4).setNew (p := ⟨w1.heap.size, 2, none⟩) (by show w.heap.size ≤ w1.heap.size; omega) (.int .i64 x4)
    clear hxx4 hx0 hf0 hx1 hf1 hx2 hf2 hx3 hf3
    obtain ⟨hy4x0, hg4x0⟩ := kC1234o.at_ 0 rfl
    obtain ⟨hy4x1, hg4x1⟩ := kC1234o.at_ 1 rfl
    obtain ⟨hy4x2, hg4x2⟩ := kC1234o.at_ 2 rfl
    obtain ⟨hy4x3, hg4x3⟩ := kC1234o.at_ 3 rfl
    clear kC123 kA123 hcu12s3 ho123 hoo4 hcu12s34 kC1234o
    obtain ⟨he0, hh0⟩ := kC1234.at_ 0 rfl
    obtain ⟨he1, hh1⟩ := kC1234.at_ 1 rfl
    obtain ⟨he2, hh2⟩ := kC1234.at_ 2 rfl
    obtain ⟨he3, hh3⟩ := kC1234.at_ 3 rfl
    obtain ⟨ha0, hb0x⟩ := kA1234.at_ 0 rfl
    obtain ⟨ha1, hb1x⟩ := kA1234.at_ 1 rfl
    obtain ⟨ha2, hb2x⟩ := kA1234.at_ 2 rfl
    obtain ⟨ha3, hb3x⟩ := kA1234.at_ 3 rfl
    go_wp2_with fail
    have kF := (((kA1234.set_ 0 (.int .i64 8)).set_ 1 (.int .i64 x2)).set_ 2 (.int .i64 x4)).set_ 3 (.int .i64 0)
    obtain ⟨hr0, -⟩ := kF.at_ 0 rfl
    obtain ⟨hr1, -⟩ := kF.at_ 1 rfl
    obtain ⟨hr2, -⟩ := kF.at_ 2 rfl
    obtain ⟨hr3, -⟩ := kF.at_ 3 rfl
    exact bodyPost_ret (v := .agg #[.int .i64 8, .int .i64 x2, .int .i64 x4, .int .i64 0]) (by simp [results, Tryz.results75, go_sem, hr0, hr1, hr2, hr3]) rfl ⟨⟨8, x2, x4, 0⟩, by unfold SmallI; simp only; omega, rfl,
      ((((hcu12s34s.setFar (p := ⟨w.heap.size, 0, none⟩) hg _).setFar (p := ⟨w.heap.size, 1, none⟩) hg _).setFar (p := ⟨w.heap.size, 2, none⟩) hg _).setFar (p := ⟨w.heap.size, 3, none⟩) hg _),
      ((((ho1234.setNew (p := ⟨w.heap.size, 0, none⟩) (Nat.le_refl _) _).setNew (p := ⟨w.heap.size, 1, none⟩) (Nat.le_refl _) _).setNew (p := ⟨w.heap.size, 2, none⟩) (Nat.le_refl _) _).setNew (p := ⟨w.heap.size, 3, none⟩) (Nat.le_refl _) _)⟩
end Go.Proofs.YtgbgjlmkmlhefaaGreatDoor

/- Contracts of the draws of codes, and of the copy of a code (package spec). Conditions: the cursor's bytes can be read; the numbers are small. -/
namespace Go.Proofs.YtgbgjlmkmlhefaaGreatDoor
set_option maxRecDepth 20000
set_option linter.unusedSimpArgs false
set_option linter.unusedVariables false
open Go.ChangeShapes Go.WideShapes Go.ChangeAt Go.RowKit
set_option linter.unusedVariables false
def DrawnC (n : Nat) (lo g : Nat) (w : World) (e : Ending) (w' : World) : Prop :=
  ∃ (v : Value) (L : List Ins), e = .returned v ∧ L.length = n ∧ (∀ x ∈ L, SmallI x) ∧ w'.ownsRow w.heap.size 37 4 v L.length (flc L) ∧ Cur lo w' g ∧ Only [g] w w'
set_option maxHeartbeats 1600000 in
theorem l02DrawCode (g : Nat) (cells : Int) (n : Nat) (w : World) {lo : Nat} (h : Cur lo w g) (hc0 : 0 ≤ cells ∧ cells ≤ 20) (hn : n ≤ 20) :
    Calls Tryz.prog 48 #[.pointer (some ⟨g, 0, none⟩), .int .i64 cells, .int .i64 n] w (DrawnC n lo g w) := by
  have hg := h.lt
  obtain ⟨i, hi, hiz0, hiz1, hiz2⟩ := info_parts infoIns
  have hO0 := owns_newCells w 37 4
  have hcu0 := h.below ((Below.refl _ _).alloc (Nat.le_refl _) (.cells #[] 37))
  have ho0 := (Only.refl [g] w).alloc (.cells #[] 37)
  go_enter Tryz.func48, Tryz.ntmps48
  go_wp2_with fail
  go_loopw [7, 8] (fun vo j wr => ∃ (k : Nat) (L : List Ins), k ≤ n ∧ j = .int .i64 k ∧ L.length ≤ k ∧ Hid (L.length = k ∧ ∀ x ∈ L, SmallI x) ∧ wr.ownsRow w.heap.size 37 4 vo L.length (flc L) ∧ Cur lo wr g ∧ Only [g] w wr) (fun _ j _ => n - (intOf j).toNat)
  case atStart => exact ⟨0, [], Nat.zero_le _, rfl, Nat.le_refl _, Lib.hid ⟨rfl, by simp⟩, hO0, hcu0, ho0⟩
  case round =>
    obtain ⟨k, L, hk, rfl, hL, HL, hO, hcu, ho⟩ := hrel
    clear hO0 hcu0 ho0
    obtain ⟨AO, cO, rfl, hcO, hcOm⟩ := owns_slice hO
    by_cases hlt : k < n
    · go_wp2_with fail
      refine (l02DrawInstr g cells n _ hcu hc0 (by omega)).mono ?_
      rintro e w2 ⟨⟨xo, xr, xsS, xn⟩, hsm, rfl, hcu2, ho2⟩
      have hO2 : w2.ownsRow w.heap.size 37 4 (.slice AO L.length cO) L.length (flc L) := hO.kept (row := some g) ⟨ho2.os, ho2.tape, ho2.output, ho2.size, fun q hq hne => ho2.block q hq (by simpa using fun e => hne (by rw [e]))⟩ (by
        cases hob : (Value.slice AO L.length cO).ownBlock with
        | none => exact .inl rfl
        | some q => exact .inr (fun e => by injection e with e; have := (hO.lt q hob).1; omega))
      have ho3 := ho.trans ho2
      have hsz := ho3.size
      have hBt : Below w.heap.size w2 w2 := Below.refl _ _
      have HSM := Lib.hid hsm
      clear hO hcu ho ho2 hsm
      go_wp2_with (at_builtin; refine wpList_append_own _ rfl _ _ 31 rfl (w.heap.size) 37 i (.agg #[.int .i64 0, .int .i64 0, .int .i64 0, .int .i64 0]) 4 32 Tryz.underlying31 hi hiz0 hiz1 hiz2 rfl (by decide) _ _ _ rfl (hO2.alloc _) ⟨w2.heap.size, 0, none⟩ 1 1 [.int .i64 xo, .int .i64 xr, .int .i64 xsS, .int .i64 xn] rfl rfl (new_cells _ _ _) (by simp [Value.oneCell']) (by unfold maxLen; omega) (by omega) (by have := hsz; simp; omega) ?_)
      intro vo3 w3 ho6 hg6 _
      have hB6 := (hBt.alloc hsz _).grown hg6 (by have := hsz; simp; omega) (fun k hk => by have := (hO2.lt k hk).1; omega)
      have hO6 := owns_snocI (x := ⟨xo, xr, xsS, xn⟩) ho6
      go_wp2_with fail
      exact ⟨⟨k + 1, L ++ [⟨xo, xr, xsS, xn⟩], by omega, by go_num, by simp; omega, Lib.hid ⟨by simp [HL.out.1], fun x hx => by
        rcases List.mem_append.1 hx with hx | hx
        · exact HL.out.2 x hx
        · rw [List.mem_singleton] at hx; subst hx; exact HSM.out⟩, hO6, hcu2.belowB hB6 hg, ho3.thenBelow hB6 (Nat.le_refl _)⟩, by simp [intOf]; omega⟩
    · obtain rfl : k = n := by omega
      go_wp2_with fail
      go_ret
      exact ⟨_, L, rfl, HL.out.1, HL.out.2, hO, hcu, ho⟩
set_option maxHeartbeats 1600000 in
theorem l02Codes (v : Value) (xs : List Ins) (w : World) (h : Rd w v 4 xs.length (flc xs)) (hl : xs.length ≤ 1048576) :
    Calls Tryz.prog 50 #[v] w fun e w' => ∃ v', e = .returned v' ∧ w'.ownsRow w.heap.size 37 4 v' xs.length (flc xs) ∧ Below w.heap.size w w' := by
  obtain ⟨A, c, rfl, -, hnc, hc, hr⟩ := h
  unfold maxLen at hc
  obtain ⟨i, hi, hiz0, hiz1, hiz2⟩ := info_parts infoIns
  have hO0 := owns_newCells w 37 4
  have hB0 := (Below.refl w.heap.size w).alloc (Nat.le_refl _) (.cells #[] 37)
  go_enter Tryz.func50, Tryz.ntmps50
  go_wp2_with fail
  go_loopw [3, 4] (fun vo j wr => ∃ (k : Nat) (L : List Ins), k ≤ xs.length ∧ j = .int .i64 k ∧ L.length ≤ k ∧ Hid (L = xs.take k) ∧ wr.ownsRow w.heap.size 37 4 vo L.length (flc L) ∧ Below w.heap.size w wr) (fun _ j _ => xs.length - (intOf j).toNat)
  case atStart => exact ⟨0, [], Nat.zero_le _, rfl, Nat.le_refl _, Lib.hid (by simp), hO0, hB0⟩
  case round =>
    obtain ⟨k, L, hk, rfl, hL, HL, hO, hB⟩ := hrel
    clear hO0 hB0
    by_cases hlt : k < xs.length
    · obtain ⟨b, o, rfl, hb, hcell⟩ := hr (by omega)
      obtain ⟨x, hxk, hx0, hx1, hx2, hx3⟩ := ins_at (fun j u hu => (hB.cell (p := ⟨b, o + j, none⟩) hb).trans (hcell j u hu)) hlt
      obtain ⟨xo, xr, xsS, xn⟩ := x
      simp only at hx0 hx1 hx2 hx3
      clear hcell hr
      go_wp2_with (at_builtin; refine wpList_append_own _ rfl _ _ 31 rfl (w.heap.size) 37 i (.agg #[.int .i64 0, .int .i64 0, .int .i64 0, .int .i64 0]) 4 32 Tryz.underlying31 hi hiz0 hiz1 hiz2 rfl (by decide) _ _ _ rfl (hO.alloc _) ⟨wr.heap.size, 0, none⟩ 1 1 [.int .i64 xo, .int .i64 xr, .int .i64 xsS, .int .i64 xn] rfl rfl (new_cells _ _ _) (by simp [Value.oneCell']) (by unfold maxLen; omega) (by omega) (by have := hB.size; simp; omega) ?_)
      intro vo3 w3 ho6 hg6 _
      have hB6 := (hB.alloc hB.size _).grown hg6 (by have := hB.size; simp; omega) (fun k hk => by have := (hO.lt k hk).1; omega)
      have hO6 := owns_snocI (x := ⟨xo, xr, xsS, xn⟩) ho6
      go_wp2_with fail
      exact ⟨⟨k + 1, L ++ [⟨xo, xr, xsS, xn⟩], by omega, by go_num, by simp; omega, Lib.hid (by rw [List.take_add_one, hxk.out, HL.out]; rfl), hO6, hB6⟩, by simp [intOf]; omega⟩
    · obtain rfl : k = xs.length := by omega
      have hN := HL.out
      rw [List.take_length] at hN
      subst hN
      clear hr
      go_wp2_with fail
      go_ret
      exact ⟨_, rfl, hO, hB⟩
end Go.Proofs.YtgbgjlmkmlhefaaGreatDoor

/- Contract of the bend of an instruction (package spec). Conditions: the cursor's bytes can be read; the numbers are small. -/
namespace Go.Proofs.YtgbgjlmkmlhefaaGreatDoor
set_option maxRecDepth 20000
set_option linter.unusedSimpArgs false
set_option linter.unusedVariables false
open Go.ChangeShapes Go.WideShapes Go.ChangeAt Go.RowKit
set_option linter.unusedVariables false
def Mid (x : Int) : Prop := -1001 ≤ x ∧ x ≤ 1001
def MidI (i : Ins) : Prop := Mid i.o ∧ Mid i.r ∧ Mid i.s ∧ Mid i.n
theorem SmallI.mid {i : Ins} (h : SmallI i) : MidI i := by
  unfold SmallI at h
  unfold MidI Mid
  omega
set_option maxHeartbeats 3200000 in
theorem l02BendInstr (g : Nat) (i : Ins) (w : World) {lo : Nat} (h : Cur lo w g) (hi : SmallI i) :
    Calls Tryz.prog 51 #[.pointer (some ⟨g, 0, none⟩), (Value.agg #[.int .i64 i.o, .int .i64 i.r, .int .i64 i.s, .int .i64 i.n])] w fun e w' => ∃ j : Ins, MidI j ∧ e = .returned (Value.agg #[.int .i64 j.o, .int .i64 j.r, .int .i64 j.s, .int .i64 j.n]) ∧ Cur lo w' g ∧ Only [g] w w' := by
  have hg := h.lt
  have HI := Lib.hid hi.mid
  clear hi
  obtain ⟨o, r, s, n⟩ := i
  have kB := (Bk.new w #[.int .i64 o, .int .i64 r, .int .i64 s, .int .i64 n] 37).alloc (.cells #[.int .i64 0, .int .i64 0, .int .i64 0, .int .i64 0] 37)
  have kA := Bk.new (w.alloc (.cells #[.int .i64 o, .int .i64 r, .int .i64 s, .int .i64 n] 37)) #[.int .i64 0, .int .i64 0, .int .i64 0, .int .i64 0] 37
  rw [World.size_alloc] at kA
  have hcu := (h.below ((Below.refl _ _).alloc (Nat.le_refl _) (.cells #[.int .i64 o, .int .i64 r, .int .i64 s, .int .i64 n] 37))).below ((Below.refl _ _).alloc (Nat.le_refl _) (.cells #[.int .i64 0, .int .i64 0, .int .i64 0, .int .i64 0] 37))
  have ho := ((Only.refl [g] w).alloc (.cells #[.int .i64 o, .int .i64 r, .int .i64 s, .int .i64 n] 37)).alloc (.cells #[.int .i64 0, .int .i64 0, .int .i64 0, .int .i64 0] 37)
  go_enter Tryz.func51, Tryz.ntmps51
  go_wp2_with fail
  refine (l01Below g 4 _ hcu (WalkArith.wf_i64 (by omega))).mono ?_
  rintro e w1 ⟨x, hx, rfl, hcu1, ho1⟩
  have kA1 := kA.only ho1 (by simp; omega)
  have kB1 := kB.only ho1 (by simp; omega)
  have hot1 := ho.trans ho1
  have hz1 : w.heap.size + 2 ≤ w1.heap.size := by have := ho1.size; simpa using this
  have hx4 : x = 0 ∨ x = 1 ∨ x = 2 ∨ x = 3 := by omega
  clear kA kB hcu ho ho1 hx
  rcases hx4 with rfl | rfl | rfl | rfl
  · go_wp2_with fail
    refine (l01Below g 9 _ hcu1 (WalkArith.wf_i64 (by omega))).mono ?_
    rintro e w2 ⟨y, hy, rfl, hcu2, ho2⟩
    have kA2 := kA1.only ho2 (by simp; omega)
    have kB2 := kB1.only ho2 (by simp; omega)
    have hot2 := hot1.trans ho2
    have hz2 : w.heap.size + 2 ≤ w2.heap.size := Nat.le_trans hz1 ho2.size
    have hy8 : 0 ≤ y ∧ y ≤ 8 := by omega
    clear kA1 kB1 hcu1 hot1 ho2 hy
    have HP : Hid (Rd (w2.alloc (.cells #[.int .i64 (-1), .int .i64 9, .int .i64 y] 3)) (.slice (some ⟨w2.heap.size, 0, none⟩) 3 3) 1 3 (ints [-1, 9, y])) := Lib.hid (rd_lit w2 [-1, 9, y] 3 (by simp))
    have kA3 := kA2.alloc (.cells #[.int .i64 (-1), .int .i64 9, .int .i64 y] 3)
    have kB3 := kB2.alloc (.cells #[.int .i64 (-1), .int .i64 9, .int .i64 y] 3)
    have hcu3 := hcu2.below ((Below.refl _ _).alloc (Nat.le_refl _) (.cells #[.int .i64 (-1), .int .i64 9, .int .i64 y] 3))
    have hot3 := hot2.alloc (.cells #[.int .i64 (-1), .int .i64 9, .int .i64 y] 3)
    clear kA2 kB2 hcu2 hot2
    go_wp2_with fail
    refine (l01PickInt g _ [-1, 9, y] _ hcu3 HP.out (by simp) (by intro A n c he ad ha; injection he with e1; subst e1; injection ha with ha; subst ha; simp; omega)).mono ?_
    rintro e w4 ⟨z, hzz, rfl, hcu4, ho4⟩
    have hzm : Mid z := by unfold Mid; simp at hzz; omega
    have kB4 := kB3.only ho4 (by simp; omega)
    have kA4 := kA3.only ho4 (by simp; omega)
    have kB5 := kB4.set_ 0 (.int .i64 z)
    have kA5 := kA4.far (p := ⟨w.heap.size, 0, none⟩) (by show w.heap.size + 1 ≠ w.heap.size; omega) (.int .i64 z)
    have hcu5 := hcu4.setFar (p := ⟨w.heap.size, 0, none⟩) hg (.int .i64 z)
    have hot5 := (hot3.trans ho4).setNew (p := ⟨w.heap.size, 0, none⟩) (Nat.le_refl _) (.int .i64 z)
    have HZ := Lib.hid hzm
    clear hzz hzm
    obtain ⟨hbx0, hbf0⟩ := kB4.at_ 0 rfl
    obtain ⟨hbx1, hbf1⟩ := kB4.at_ 1 rfl
    obtain ⟨hbx2, hbf2⟩ := kB4.at_ 2 rfl
    obtain ⟨hbx3, hbf3⟩ := kB4.at_ 3 rfl
    obtain ⟨hcx0, hcf0⟩ := kB5.at_ 0 rfl
    obtain ⟨hcx1, hcf1⟩ := kB5.at_ 1 rfl
    obtain ⟨hcx2, hcf2⟩ := kB5.at_ 2 rfl
    obtain ⟨hcx3, hcf3⟩ := kB5.at_ 3 rfl
    obtain ⟨hax0, haf0⟩ := kA5.at_ 0 rfl
    obtain ⟨hax1, haf1⟩ := kA5.at_ 1 rfl
    obtain ⟨hax2, haf2⟩ := kA5.at_ 2 rfl
    obtain ⟨hax3, haf3⟩ := kA5.at_ 3 rfl
    go_wp2_with fail
    have kF := (((kA5.set_ 0 (.int .i64 z)).set_ 1 (.int .i64 r)).set_ 2 (.int .i64 s)).set_ 3 (.int .i64 n)
    obtain ⟨hr0, -⟩ := kF.at_ 0 rfl
    obtain ⟨hr1, -⟩ := kF.at_ 1 rfl
    obtain ⟨hr2, -⟩ := kF.at_ 2 rfl
    obtain ⟨hr3, -⟩ := kF.at_ 3 rfl
    have hg1 : g < w.heap.size + 1 := Nat.lt_succ_of_lt hg
    exact bodyPost_ret (v := .agg #[.int .i64 z, .int .i64 r, .int .i64 s, .int .i64 n]) (by simp [results, Tryz.results51, go_sem, hr0, hr1, hr2, hr3]) rfl ⟨⟨z, r, s, n⟩, ⟨HZ.out, HI.out.2.1, HI.out.2.2.1, HI.out.2.2.2⟩, rfl,
      (((hcu5.setFar (p := ⟨w.heap.size + 1, 0, none⟩) hg1 _).setFar (p := ⟨w.heap.size + 1, 1, none⟩) hg1 _).setFar (p := ⟨w.heap.size + 1, 2, none⟩) hg1 _).setFar (p := ⟨w.heap.size + 1, 3, none⟩) hg1 _,
      (((hot5.setNew (p := ⟨w.heap.size + 1, 0, none⟩) (Nat.le_succ _) _).setNew (p := ⟨w.heap.size + 1, 1, none⟩) (Nat.le_succ _) _).setNew (p := ⟨w.heap.size + 1, 2, none⟩) (Nat.le_succ _) _).setNew (p := ⟨w.heap.size + 1, 3, none⟩) (Nat.le_succ _) _⟩
  · have HP : Hid (Rd (w1.alloc (.cells #[.int .i64 (-1), .int .i64 3, .int .i64 4] 3)) (.slice (some ⟨w1.heap.size, 0, none⟩) 3 3) 1 3 (ints [-1, 3, 4])) := Lib.hid (rd_lit w1 [-1, 3, 4] 3 (by simp))
    have kA3 := kA1.alloc (.cells #[.int .i64 (-1), .int .i64 3, .int .i64 4] 3)
    have kB3 := kB1.alloc (.cells #[.int .i64 (-1), .int .i64 3, .int .i64 4] 3)
    have hcu3 := hcu1.below ((Below.refl _ _).alloc (Nat.le_refl _) (.cells #[.int .i64 (-1), .int .i64 3, .int .i64 4] 3))
    have hot3 := hot1.alloc (.cells #[.int .i64 (-1), .int .i64 3, .int .i64 4] 3)
    clear kA1 kB1 hcu1 hot1
    go_wp2_with fail
    refine (l01PickInt g _ [-1, 3, 4] _ hcu3 HP.out (by simp) (by intro A n c he ad ha; injection he with e1; subst e1; injection ha with ha; subst ha; simp; omega)).mono ?_
    rintro e w4 ⟨z, hzz, rfl, hcu4, ho4⟩
    have hzm : Mid z := by unfold Mid; simp at hzz; omega
    have kB4 := kB3.only ho4 (by simp; omega)
    have kA4 := kA3.only ho4 (by simp; omega)
    have kB5 := kB4.set_ 1 (.int .i64 z)
    have kA5 := kA4.far (p := ⟨w.heap.size, 1, none⟩) (by show w.heap.size + 1 ≠ w.heap.size; omega) (.int .i64 z)
    have hcu5 := hcu4.setFar (p := ⟨w.heap.size, 1, none⟩) hg (.int .i64 z)
    have hot5 := (hot3.trans ho4).setNew (p := ⟨w.heap.size, 1, none⟩) (Nat.le_refl _) (.int .i64 z)
    have HZ := Lib.hid hzm
    clear hzz hzm
    obtain ⟨hbx0, hbf0⟩ := kB4.at_ 0 rfl
    obtain ⟨hbx1, hbf1⟩ := kB4.at_ 1 rfl
    obtain ⟨hbx2, hbf2⟩ := kB4.at_ 2 rfl
    obtain ⟨hbx3, hbf3⟩ := kB4.at_ 3 rfl
    obtain ⟨hcx0, hcf0⟩ := kB5.at_ 0 rfl
    obtain ⟨hcx1, hcf1⟩ := kB5.at_ 1 rfl
    obtain ⟨hcx2, hcf2⟩ := kB5.at_ 2 rfl
    obtain ⟨hcx3, hcf3⟩ := kB5.at_ 3 rfl
    obtain ⟨hax0, haf0⟩ := kA5.at_ 0 rfl
    obtain ⟨hax1, haf1⟩ := kA5.at_ 1 rfl
    obtain ⟨hax2, haf2⟩ := kA5.at_ 2 rfl
    obtain ⟨hax3, haf3⟩ := kA5.at_ 3 rfl
    go_wp2_with fail
    have kF := (((kA5.set_ 0 (.int .i64 o)).set_ 1 (.int .i64 z)).set_ 2 (.int .i64 s)).set_ 3 (.int .i64 n)
    obtain ⟨hr0, -⟩ := kF.at_ 0 rfl
    obtain ⟨hr1, -⟩ := kF.at_ 1 rfl
    obtain ⟨hr2, -⟩ := kF.at_ 2 rfl
    obtain ⟨hr3, -⟩ := kF.at_ 3 rfl
    have hg1 : g < w.heap.size + 1 := Nat.lt_succ_of_lt hg
    exact bodyPost_ret (v := .agg #[.int .i64 o, .int .i64 z, .int .i64 s, .int .i64 n]) (by simp [results, Tryz.results51, go_sem, hr0, hr1, hr2, hr3]) rfl ⟨⟨o, z, s, n⟩, ⟨HI.out.1, HZ.out, HI.out.2.2.1, HI.out.2.2.2⟩, rfl,
      (((hcu5.setFar (p := ⟨w.heap.size + 1, 0, none⟩) hg1 _).setFar (p := ⟨w.heap.size + 1, 1, none⟩) hg1 _).setFar (p := ⟨w.heap.size + 1, 2, none⟩) hg1 _).setFar (p := ⟨w.heap.size + 1, 3, none⟩) hg1 _,
      (((hot5.setNew (p := ⟨w.heap.size + 1, 0, none⟩) (Nat.le_succ _) _).setNew (p := ⟨w.heap.size + 1, 1, none⟩) (Nat.le_succ _) _).setNew (p := ⟨w.heap.size + 1, 2, none⟩) (Nat.le_succ _) _).setNew (p := ⟨w.heap.size + 1, 3, none⟩) (Nat.le_succ _) _⟩
  · have HP : Hid (Rd (w1.alloc (.cells #[.int .i64 (-1), .int .i64 3, .int .i64 4, .int .i64 1] 3)) (.slice (some ⟨w1.heap.size, 0, none⟩) 4 4) 1 4 (ints [-1, 3, 4, 1])) := Lib.hid (rd_lit w1 [-1, 3, 4, 1] 3 (by simp))
    have kA3 := kA1.alloc (.cells #[.int .i64 (-1), .int .i64 3, .int .i64 4, .int .i64 1] 3)
    have kB3 := kB1.alloc (.cells #[.int .i64 (-1), .int .i64 3, .int .i64 4, .int .i64 1] 3)
    have hcu3 := hcu1.below ((Below.refl _ _).alloc (Nat.le_refl _) (.cells #[.int .i64 (-1), .int .i64 3, .int .i64 4, .int .i64 1] 3))
    have hot3 := hot1.alloc (.cells #[.int .i64 (-1), .int .i64 3, .int .i64 4, .int .i64 1] 3)
    clear kA1 kB1 hcu1 hot1
    go_wp2_with fail
    refine (l01PickInt g _ [-1, 3, 4, 1] _ hcu3 HP.out (by simp) (by intro A n c he ad ha; injection he with e1; subst e1; injection ha with ha; subst ha; simp; omega)).mono ?_
    rintro e w4 ⟨z, hzz, rfl, hcu4, ho4⟩
    have hzm : Mid z := by unfold Mid; simp at hzz; omega
    have kB4 := kB3.only ho4 (by simp; omega)
    have kA4 := kA3.only ho4 (by simp; omega)
    have kB5 := kB4.set_ 2 (.int .i64 z)
    have kA5 := kA4.far (p := ⟨w.heap.size, 2, none⟩) (by show w.heap.size + 1 ≠ w.heap.size; omega) (.int .i64 z)
    have hcu5 := hcu4.setFar (p := ⟨w.heap.size, 2, none⟩) hg (.int .i64 z)
    have hot5 := (hot3.trans ho4).setNew (p := ⟨w.heap.size, 2, none⟩) (Nat.le_refl _) (.int .i64 z)
    have HZ := Lib.hid hzm
    clear hzz hzm
    obtain ⟨hbx0, hbf0⟩ := kB4.at_ 0 rfl
    obtain ⟨hbx1, hbf1⟩ := kB4.at_ 1 rfl
    obtain ⟨hbx2, hbf2⟩ := kB4.at_ 2 rfl
    obtain ⟨hbx3, hbf3⟩ := kB4.at_ 3 rfl
    obtain ⟨hcx0, hcf0⟩ := kB5.at_ 0 rfl
    obtain ⟨hcx1, hcf1⟩ := kB5.at_ 1 rfl
    obtain ⟨hcx2, hcf2⟩ := kB5.at_ 2 rfl
    obtain ⟨hcx3, hcf3⟩ := kB5.at_ 3 rfl
    obtain ⟨hax0, haf0⟩ := kA5.at_ 0 rfl
    obtain ⟨hax1, haf1⟩ := kA5.at_ 1 rfl
    obtain ⟨hax2, haf2⟩ := kA5.at_ 2 rfl
    obtain ⟨hax3, haf3⟩ := kA5.at_ 3 rfl
    go_wp2_with fail
    have kF := (((kA5.set_ 0 (.int .i64 o)).set_ 1 (.int .i64 r)).set_ 2 (.int .i64 z)).set_ 3 (.int .i64 n)
    obtain ⟨hr0, -⟩ := kF.at_ 0 rfl
    obtain ⟨hr1, -⟩ := kF.at_ 1 rfl
    obtain ⟨hr2, -⟩ := kF.at_ 2 rfl
    obtain ⟨hr3, -⟩ := kF.at_ 3 rfl
    have hg1 : g < w.heap.size + 1 := Nat.lt_succ_of_lt hg
    exact bodyPost_ret (v := .agg #[.int .i64 o, .int .i64 r, .int .i64 z, .int .i64 n]) (by simp [results, Tryz.results51, go_sem, hr0, hr1, hr2, hr3]) rfl ⟨⟨o, r, z, n⟩, ⟨HI.out.1, HI.out.2.1, HZ.out, HI.out.2.2.2⟩, rfl,
      (((hcu5.setFar (p := ⟨w.heap.size + 1, 0, none⟩) hg1 _).setFar (p := ⟨w.heap.size + 1, 1, none⟩) hg1 _).setFar (p := ⟨w.heap.size + 1, 2, none⟩) hg1 _).setFar (p := ⟨w.heap.size + 1, 3, none⟩) hg1 _,
      (((hot5.setNew (p := ⟨w.heap.size + 1, 0, none⟩) (Nat.le_succ _) _).setNew (p := ⟨w.heap.size + 1, 1, none⟩) (Nat.le_succ _) _).setNew (p := ⟨w.heap.size + 1, 2, none⟩) (Nat.le_succ _) _).setNew (p := ⟨w.heap.size + 1, 3, none⟩) (Nat.le_succ _) _⟩
  · have HP : Hid (Rd (w1.alloc (.cells #[.int .i64 (-1), .int .i64 15, .int .i64 16, .int .i64 17, .int .i64 1000, .int .i64 1001, .int .i64 (-1000), .int .i64 (-1001)] 3)) (.slice (some ⟨w1.heap.size, 0, none⟩) 8 8) 1 8 (ints [-1, 15, 16, 17, 1000, 1001, -1000, -1001])) := Lib.hid (rd_lit w1 [-1, 15, 16, 17, 1000, 1001, -1000, -1001] 3 (by simp))
    have kA3 := kA1.alloc (.cells #[.int .i64 (-1), .int .i64 15, .int .i64 16, .int .i64 17, .int .i64 1000, .int .i64 1001, .int .i64 (-1000), .int .i64 (-1001)] 3)
    have kB3 := kB1.alloc (.cells #[.int .i64 (-1), .int .i64 15, .int .i64 16, .int .i64 17, .int .i64 1000, .int .i64 1001, .int .i64 (-1000), .int .i64 (-1001)] 3)
    have hcu3 := hcu1.below ((Below.refl _ _).alloc (Nat.le_refl _) (.cells #[.int .i64 (-1), .int .i64 15, .int .i64 16, .int .i64 17, .int .i64 1000, .int .i64 1001, .int .i64 (-1000), .int .i64 (-1001)] 3))
    have hot3 := hot1.alloc (.cells #[.int .i64 (-1), .int .i64 15, .int .i64 16, .int .i64 17, .int .i64 1000, .int .i64 1001, .int .i64 (-1000), .int .i64 (-1001)] 3)
    clear kA1 kB1 hcu1 hot1
    go_wp2_with fail
    refine (l01PickInt g _ [-1, 15, 16, 17, 1000, 1001, -1000, -1001] _ hcu3 HP.out (by simp) (by intro A n c he ad ha; injection he with e1; subst e1; injection ha with ha; subst ha; simp; omega)).mono ?_
    rintro e w4 ⟨z, hzz, rfl, hcu4, ho4⟩
    have hzm : Mid z := by unfold Mid; simp at hzz; omega
    have kB4 := kB3.only ho4 (by simp; omega)
    have kA4 := kA3.only ho4 (by simp; omega)
    have kB5 := kB4.set_ 3 (.int .i64 z)
    have kA5 := kA4.far (p := ⟨w.heap.size, 3, none⟩) (by show w.heap.size + 1 ≠ w.heap.size; omega) (.int .i64 z)
    have hcu5 := hcu4.setFar (p := ⟨w.heap.size, 3, none⟩) hg (.int .i64 z)
    have hot5 := (hot3.trans ho4).setNew (p := ⟨w.heap.size, 3, none⟩) (Nat.le_refl _) (.int .i64 z)
    have HZ := Lib.hid hzm
    clear hzz hzm
    obtain ⟨hbx0, hbf0⟩ := kB4.at_ 0 rfl
    obtain ⟨hbx1, hbf1⟩ := kB4.at_ 1 rfl
    obtain ⟨hbx2, hbf2⟩ := kB4.at_ 2 rfl
    obtain ⟨hbx3, hbf3⟩ := kB4.at_ 3 rfl
    obtain ⟨hcx0, hcf0⟩ := kB5.at_ 0 rfl
    obtain ⟨hcx1, hcf1⟩ := kB5.at_ 1 rfl
    obtain ⟨hcx2, hcf2⟩ := kB5.at_ 2 rfl
    obtain ⟨hcx3, hcf3⟩ := kB5.at_ 3 rfl
    obtain ⟨hax0, haf0⟩ := kA5.at_ 0 rfl
    obtain ⟨hax1, haf1⟩ := kA5.at_ 1 rfl
    obtain ⟨hax2, haf2⟩ := kA5.at_ 2 rfl
    obtain ⟨hax3, haf3⟩ := kA5.at_ 3 rfl
    go_wp2_with fail
    have kF := (((kA5.set_ 0 (.int .i64 o)).set_ 1 (.int .i64 r)).set_ 2 (.int .i64 s)).set_ 3 (.int .i64 z)
    obtain ⟨hr0, -⟩ := kF.at_ 0 rfl
    obtain ⟨hr1, -⟩ := kF.at_ 1 rfl
    obtain ⟨hr2, -⟩ := kF.at_ 2 rfl
    obtain ⟨hr3, -⟩ := kF.at_ 3 rfl
    have hg1 : g < w.heap.size + 1 := Nat.lt_succ_of_lt hg
    exact bodyPost_ret (v := .agg #[.int .i64 o, .int .i64 r, .int .i64 s, .int .i64 z]) (by simp [results, Tryz.results51, go_sem, hr0, hr1, hr2, hr3]) rfl ⟨⟨o, r, s, z⟩, ⟨HI.out.1, HI.out.2.1, HI.out.2.2.1, HZ.out⟩, rfl,
      (((hcu5.setFar (p := ⟨w.heap.size + 1, 0, none⟩) hg1 _).setFar (p := ⟨w.heap.size + 1, 1, none⟩) hg1 _).setFar (p := ⟨w.heap.size + 1, 2, none⟩) hg1 _).setFar (p := ⟨w.heap.size + 1, 3, none⟩) hg1 _,
      (((hot5.setNew (p := ⟨w.heap.size + 1, 0, none⟩) (Nat.le_succ _) _).setNew (p := ⟨w.heap.size + 1, 1, none⟩) (Nat.le_succ _) _).setNew (p := ⟨w.heap.size + 1, 2, none⟩) (Nat.le_succ _) _).setNew (p := ⟨w.heap.size + 1, 3, none⟩) (Nat.le_succ _) _⟩
end Go.Proofs.YtgbgjlmkmlhefaaGreatDoor

/- Contracts of the draws of programs (package spec). Conditions: the cursor's bytes can be read; the numbers are small. -/
namespace Go.Proofs.YtgbgjlmkmlhefaaGreatDoor
set_option maxRecDepth 20000
set_option linter.unusedSimpArgs false
set_option linter.unusedVariables false
open Go.ChangeShapes Go.WideShapes Go.ChangeAt Go.RowKit
set_option linter.unusedVariables false
theorem flc_set4 : ∀ {L : List Ins} {k : Nat} (x : Ins), k < L.length → ((((flc L).set (k * 4) (.int .i64 x.o)).set (k * 4 + 1) (.int .i64 x.r)).set (k * 4 + 2) (.int .i64 x.s)).set (k * 4 + 3) (.int .i64 x.n) = flc (L.set k x)
  | i :: L, 0, x, _ => by
    rw [show flc (i :: L) = insC i ++ flc L from flc_append [i] L, List.set_cons_zero, show flc (x :: L) = insC x ++ flc L from flc_append [x] L]
    rfl
  | i :: L, k + 1, x, h => by
    have hi : (insC i).length = 4 := rfl
    rw [show flc (i :: L) = insC i ++ flc L from flc_append [i] L, List.set_cons_succ, show flc (i :: L.set k x) = insC i ++ flc (L.set k x) from flc_append [i] _, ← flc_set4 x (by simpa using h)]
    rw [List.set_append, if_neg (by omega), List.set_append, if_neg (by omega), List.set_append, if_neg (by omega), List.set_append, if_neg (by omega), hi,
      show (k + 1) * 4 - 4 = k * 4 by omega, show (k + 1) * 4 + 1 - 4 = k * 4 + 1 by omega, show (k + 1) * 4 + 2 - 4 = k * 4 + 2 by omega, show (k + 1) * 4 + 3 - 4 = k * 4 + 3 by omega]
theorem owns_onlyQ {w w' : World} {base : Nat} {e : TypeId} {size n : Nat} {v : Value} {xs : List Value} {bs : List Nat} (h : w.ownsRow base e size v n xs) (ho : Only bs w w') (hb : ∀ b ∈ bs, b < base) : w'.ownsRow base e size v n xs := by
  obtain ⟨h1, h2⟩ := h
  refine ⟨h1, ?_⟩
  rcases h2 with h2 | ⟨g, cap, cur, e1, e2, e3, e4⟩
  · exact .inl h2
  · exact .inr ⟨g, cap, cur, e1, e2, (ho.block g (Array.getElem?_eq_some_iff.1 e3).1 (fun hm => by have := hb g hm; omega)).trans e3, e4⟩
/-- each code of a drawn program is a row of its own -/
def CodesOwn (W : World) (lo : Nat) : List Value → List (List Ins) → Prop
  | [], [] => True
  | v :: vs, xs :: xss => W.ownsRow lo 37 4 v xs.length (flc xs) ∧ CodesOwn W lo vs xss
  | _, _ => False
theorem CodesOwn.map {W W' : World} {lo lo' : Nat} (hf : ∀ v n cs, W.ownsRow lo 37 4 v n cs → W'.ownsRow lo' 37 4 v n cs) : ∀ {vs : List Value} {xss : List (List Ins)}, CodesOwn W lo vs xss → CodesOwn W' lo' vs xss
  | [], [], _ => trivial
  | [], _ :: _, h => h.elim
  | _ :: _, [], h => h.elim
  | v :: vs, xs :: xss, h => ⟨hf _ _ _ h.1, CodesOwn.map hf h.2⟩
theorem CodesOwn.snoc {W : World} {lo : Nat} {v : Value} {xs : List Ins} (hv : W.ownsRow lo 37 4 v xs.length (flc xs)) : ∀ {vs : List Value} {xss : List (List Ins)}, CodesOwn W lo vs xss → CodesOwn W lo (vs ++ [v]) (xss ++ [xs])
  | [], [], _ => ⟨hv, trivial⟩
  | [], _ :: _, h => h.elim
  | _ :: _, [], h => h.elim
  | u :: vs, ys :: xss, h => ⟨h.1, CodesOwn.snoc hv h.2⟩
theorem CodesOwn.len {W : World} {lo : Nat} : ∀ {vs : List Value} {xss : List (List Ins)}, CodesOwn W lo vs xss → vs.length = xss.length
  | [], [], _ => rfl
  | [], _ :: _, h => h.elim
  | _ :: _, [], h => h.elim
  | u :: vs, ys :: xss, h => by simp [CodesOwn.len h.2]
theorem CodesOwn.rd {W : World} {lo : Nat} : ∀ {vs : List Value} {xss : List (List Ins)}, CodesOwn W lo vs xss → AllRd Rd W vs xss
  | [], [], _ => trivial
  | [], _ :: _, h => h.elim
  | _ :: _, [], h => h.elim
  | u :: vs, ys :: xss, h => ⟨by obtain ⟨bs, h1, -⟩ := Own.of_owns h.1; exact h1.rd, CodesOwn.rd h.2⟩
/-- a drawn program's codes -/
def ProgOwn (W : World) (lo : Nat) (v : Value) (xss : List (List Ins)) : Prop := ∃ vs, W.ownsRow lo 31 1 v xss.length vs ∧ CodesOwn W lo vs xss
theorem ProgOwn.rd {W : World} {lo : Nat} {v : Value} {xss : List (List Ins)} (h : ProgOwn W lo v xss) : RdSS W v xss := by
  obtain ⟨vs, h1, h2⟩ := h
  obtain ⟨bs, h3, -⟩ := Own.of_owns h1
  exact ⟨vs, h3.rd, h2.rd⟩
theorem ProgOwn.only {W W' : World} {lo g : Nat} {v : Value} {xss : List (List Ins)} (h : ProgOwn W lo v xss) (ho : Only [g] W W') (hg : g < lo) : ProgOwn W' lo v xss := by
  obtain ⟨vs, h1, h2⟩ := h
  exact ⟨vs, owns_onlyQ h1 ho (by simpa using hg), h2.map fun v n cs h => owns_onlyQ h ho (by simpa using hg)⟩
theorem ProgOwn.below {W W' : World} {lo : Nat} {v : Value} {xss : List (List Ins)} (h : ProgOwn W lo v xss) (hb : Below W.heap.size W W') : ProgOwn W' lo v xss := by
  obtain ⟨vs, h1, h2⟩ := h
  exact ⟨vs, ownsRow_below h1 hb, h2.map fun v n cs h => ownsRow_below h hb⟩
theorem ProgOwn.mono {W : World} {lo lo' : Nat} {v : Value} {xss : List (List Ins)} (h : ProgOwn W lo v xss) (hl : lo' ≤ lo) : ProgOwn W lo' v xss := by
  obtain ⟨vs, h1, h2⟩ := h
  exact ⟨vs, owns_mono h1 hl, h2.map fun v n cs h => owns_mono h hl⟩
theorem ProgOwn.setLow {W : World} {lo : Nat} {v : Value} {xss : List (List Ins)} {a : Addr} (h : ProgOwn W lo v xss) (ha : a.block < lo) (u : Value) : ProgOwn (W.setCell a u) lo v xss := by
  obtain ⟨vs, h1, h2⟩ := h
  exact ⟨vs, ownsRow_setCell_below h1 ha u, h2.map fun v n cs h => ownsRow_setCell_below h ha u⟩
def SmallSS (xss : List (List Ins)) : Prop := ∀ xs ∈ xss, xs.length ≤ 16 ∧ ∀ x ∈ xs, SmallI x
def DrawnP (lo0 g : Nat) (w : World) (e : Ending) (w' : World) : Prop :=
  ∃ (v : Value) (c : Int) (xss : List (List Ins)) (lo : Nat), e = .returned (.agg #[.int .i64 c, v]) ∧ (1 ≤ c ∧ c ≤ 3) ∧ xss.length ≤ 3 ∧ SmallSS xss ∧ w.heap.size ≤ lo ∧ ProgOwn w' lo v xss ∧ Cur lo0 w' g ∧ Only [g] w w'
theorem infoProg : (Tryz.prog.info? 26).map (fun i => (i.zero, i.size, i.bytes)) = some (some (.agg #[.int .i64 0, .slice none 0 0]), 2, 32) := by kernel_rfl
theorem infoCodesD : (Tryz.prog.info? 31).map (fun i => (i.zero, i.size, i.bytes)) = some (some (.slice none 0 0), 1, 24) := by kernel_rfl
set_option maxHeartbeats 400000 in
theorem l01Size (A : Option Addr) (n c : Nat) (w : World) (hnc : n ≤ c) (hc : c ≤ 9223372036854775807) (hn : n ≤ 1048576) :
    Calls Tryz.prog 23 #[.slice A n c, .int .i64 16] w fun e w' => ∃ k : Nat, e = .returned (.int .i64 k) ∧ 1 ≤ k ∧ k ≤ 16 ∧ w = w' := by
  have hq : (n : Int).tdiv 16 = ((n / 16 : Nat) : Int) := by rw [Int.tdiv_eq_ediv_of_nonneg (by omega)]; omega
  by_cases h : (16 : Int) < 2 + (n : Int) / 16
  · go_enter Tryz.func23, Tryz.ntmps23
    go_wp2_with fail
    go_ret
    exact ⟨16, rfl, by omega, by omega, rfl⟩
  · go_enter Tryz.func23, Tryz.ntmps23
    go_wp2_with fail
    go_ret
    exact ⟨2 + n / 16, ret_int (by omega), by omega, by omega, rfl⟩
end Go.Proofs.YtgbgjlmkmlhefaaGreatDoor

/- Contract of the draw of a program (package spec). Conditions: the cursor's bytes can be read; codes of at most sixteen instructions. -/
namespace Go.Proofs.YtgbgjlmkmlhefaaGreatDoor
set_option maxRecDepth 20000
set_option linter.unusedSimpArgs false
set_option linter.unusedVariables false
open Go.ChangeShapes Go.WideShapes Go.ChangeAt Go.RowKit
set_option linter.unusedVariables false
theorem owns_formQ {w : World} {base : Nat} {e : TypeId} {size : Nat} {A : Option Addr} {n m c : Nat} {xs : List Value} (h : w.ownsRow base e size (.slice A m c) n xs) (hn : 0 < n) : ∃ g, A = some ⟨g, 0, none⟩ ∧ base ≤ g := by
  obtain ⟨_, ⟨_, h0⟩ | ⟨g, cap, cur, h1, h2, _⟩⟩ := h
  · omega
  · injection h1 with h1
    exact ⟨g, h1, h2⟩
theorem small_set {L : List Ins} {k : Nat} {x : Ins} (h : ∀ y ∈ L, SmallI y) (hx : SmallI x) : ∀ y ∈ L.set k x, SmallI y := by
  intro y hy
  rcases List.mem_or_eq_of_mem_set hy with h1 | rfl
  · exact h y h1
  · exact hx
/-- four stores put an instruction into a code of one's own -/
theorem owns_putI {w : World} {base g n cap : Nat} {e : TypeId} {L : List Ins} (h : w.ownsRow base e 4 (.slice (some ⟨g, 0, none⟩) n cap) n (flc L)) (k : Nat) (x : Ins) (hk : k < L.length) :
    ((((w.setCell ⟨g, k * 4, none⟩ (.int .i64 x.o)).setCell ⟨g, k * 4 + 1, none⟩ (.int .i64 x.r)).setCell ⟨g, k * 4 + 2, none⟩ (.int .i64 x.s)).setCell ⟨g, k * 4 + 3, none⟩ (.int .i64 x.n)).ownsRow base e 4 (.slice (some ⟨g, 0, none⟩) n cap) n (flc (L.set k x)) :=
  flc_set4 x hk ▸ owns_set4 h (k * 4) (k * 4 + 1) (k * 4 + 2) (k * 4 + 3) (.int .i64 x.o) (.int .i64 x.r) (.int .i64 x.s) (.int .i64 x.n)
/-- while a code's second instruction is written: what is known, whatever its cells hold by now -/
def Mid12 (g lo gp gc : Nat) (W0 : World) (x : Int) (u : Value) (K cC : Nat) (L1 : List Ins) (W : World) : Prop :=
  Cur lo W g ∧ Only [g] W0 W ∧ Bk W gp #[.int .i64 x, u] 26 ∧ ∃ cs, W.ownsRow W0.heap.size 37 4 (.slice (some ⟨gc, 0, none⟩) K cC) K cs ∧ ∀ j, j < 4 ∨ 8 ≤ j → cs[j]? = (flc L1)[j]?
section
variable {g lo gp gc K cC : Nat} {W0 W W' : World} {x : Int} {u : Value} {L1 : List Ins}
theorem Mid12.go (h : Mid12 g lo gp gc W0 x u K cC L1 W) (hc : Cur lo W' g) (ho : Only [g] W W') (hg : g < gp) (hp : gp < W0.heap.size) : Mid12 g lo gp gc W0 x u K cC L1 W' := by
  obtain ⟨h1, h2, h3, cs, h4, h5⟩ := h
  exact ⟨hc, h2.trans ho, h3.only ho (by simp; omega), cs, owns_onlyQ h4 ho (by simp; omega), h5⟩
theorem Mid12.drew (h : Mid12 g lo gp gc W0 x u K cC L1 W) (hg : g < gp) (hp : gp < W0.heap.size) : Mid12 g lo gp gc W0 x u K cC L1 W.drew := h.go (h.1.below (Below.refl _ _).drew) (Only.of_below (Below.refl _ _).drew _) hg hp
theorem Mid12.store (h : Mid12 g lo gp gc W0 x u K cC L1 W) (hg : g < gp) (hp : gp < W0.heap.size) (hc : W0.heap.size ≤ gc) (j : Nat) (hj : 4 ≤ j ∧ j < 8) (z : Value) : Mid12 g lo gp gc W0 x u K cC L1 (W.setCell ⟨gc, j, none⟩ z) := by
  obtain ⟨h1, h2, h3, cs, h4, h5⟩ := h
  exact ⟨h1.setFar (p := ⟨gc, j, none⟩) (by show g < gc; omega) z, h2.setNew (p := ⟨gc, j, none⟩) hc z, h3.far (p := ⟨gc, j, none⟩) (by show gp ≠ gc; omega) z, _, (h4.stored j z).1, fun i hi => by rw [List.getElem?_set_ne (by omega)]; exact h5 i hi⟩
theorem mid_held {a : Ins} (h : Mid12 g lo gp gc W0 x u K cC L1 W) (hx : L1[0]? = some a) (hK : 1 < K) :
    W.cell? ⟨gc, 1, none⟩ = some (.int .i64 a.r) ∧ W.cell? ⟨gp, 0, none⟩ = some (.int .i64 x) ∧ Hid (Mid12 g lo gp gc W0 x u K cC L1 W) := by
  have h0 := h
  obtain ⟨h1, h2, h3, cs, h4, h5⟩ := h
  exact ⟨(h4.cellAt 1 (by omega)).trans ((h5 1 (.inl (by omega))).trans (flc_at hx 1 (by omega))), (h3.at_ 0 rfl).1, Lib.hid h0⟩
theorem Mid12.cell (h : Mid12 g lo gp gc W0 x u K cC L1 W) (hK : 1 < K) (j : Nat) (hj : j < 8) : (∃ v, W.cell? ⟨gc, j, none⟩ = some v) ∧ W.frozen? ⟨gc, j, none⟩ = false := by
  obtain ⟨h1, h2, h3, cs, h4, h5⟩ := h
  refine ⟨?_, h4.frozenAt j⟩
  have hl := h4.1
  exact ⟨cs[j]'(by omega), (h4.cellAt j (by omega)).trans (List.getElem?_eq_getElem _)⟩
theorem Mid12.done (h : Mid12 g lo gp gc W0 x u K cC L1 W) (hL : L1.length = K) (hK : 1 < K) (y : Ins) :
    ((((W.setCell ⟨gc, 4, none⟩ (.int .i64 y.o)).setCell ⟨gc, 5, none⟩ (.int .i64 y.r)).setCell ⟨gc, 6, none⟩ (.int .i64 y.s)).setCell ⟨gc, 7, none⟩ (.int .i64 y.n)).ownsRow W0.heap.size 37 4 (.slice (some ⟨gc, 0, none⟩) K cC) K (flc (L1.set 1 y)) := by
  obtain ⟨h1, h2, h3, cs, h4, h5⟩ := h
  have h6 := owns_set4 h4 4 5 6 7 (.int .i64 y.o) (.int .i64 y.r) (.int .i64 y.s) (.int .i64 y.n)
  have hl := h4.1
  have hfl := flc_len L1
  have he : ((((cs.set 4 (.int .i64 y.o)).set 5 (.int .i64 y.r)).set 6 (.int .i64 y.s)).set 7 (.int .i64 y.n)) = flc (L1.set 1 y) := by
    rw [← flc_set4 (k := 1) y (by omega)]
    apply List.ext_getElem?
    intro j
    by_cases hj : j < 4 ∨ 8 ≤ j
    · simp only [Nat.one_mul, Nat.reduceAdd]
      rw [List.getElem?_set_ne (by omega), List.getElem?_set_ne (by omega), List.getElem?_set_ne (by omega), List.getElem?_set_ne (by omega), h5 j hj,
        List.getElem?_set_ne (by omega), List.getElem?_set_ne (by omega), List.getElem?_set_ne (by omega), List.getElem?_set_ne (by omega)]
    · obtain rfl | rfl | rfl | rfl : j = 4 ∨ j = 5 ∨ j = 6 ∨ j = 7 := by omega
      all_goals simp [List.getElem?_set, hl, hfl, hL]
      all_goals omega
  rwa [he] at h6
end
set_option maxHeartbeats 20000000 in
theorem l02DrawProg (g : Nat) (most : Int) (w : World) {lo : Nat} (h : Cur lo w g) (hm : 1 ≤ most ∧ most ≤ 16) :
    Calls Tryz.prog 22 #[.pointer (some ⟨g, 0, none⟩), .int .i64 most] w (DrawnP lo g w) := by
  have hg := h.lt
  obtain ⟨i, hi, hiz0, hiz1, hiz2⟩ := info_parts infoCodesD
  have kR := Bk.new w #[.int .i64 0, .slice none 0 0] 26
  have hcu0 := h.below ((Below.refl _ _).alloc (Nat.le_refl _) (.cells #[.int .i64 0, .slice none 0 0] 26))
  have ho0 := (Only.refl [g] w).alloc (.cells #[.int .i64 0, .slice none 0 0] 26)
  go_enter Tryz.func22, Tryz.ntmps22
  go_wp2_with fail
  refine (l01Below g 3 _ hcu0 (WalkArith.wf_i64 (by omega))).mono ?_
  rintro e w1 ⟨x, hx, rfl, hcu1, ho1⟩
  have hx2 : 0 ≤ x ∧ x ≤ 2 := by omega
  have kR1 := kR.only ho1 (by simp; omega)
  have hot1 := ho0.trans ho1
  have hz1 : w.heap.size + 1 ≤ w1.heap.size := by have := ho1.size; simpa using this
  clear kR hcu0 ho0 ho1 hx
  have kR2 := kR1.alloc (.cells #[.int .i64 (1 + x), .slice none 0 0] 26)
  have kP2 := Bk.new w1 #[.int .i64 (1 + x), .slice none 0 0] 26
  have hcu1b := hcu1.below ((Below.refl _ _).alloc (Nat.le_refl _) (.cells #[.int .i64 (1 + x), .slice none 0 0] 26))
  have hot1b := hot1.alloc (.cells #[.int .i64 (1 + x), .slice none 0 0] 26)
  have hgn : g < w1.heap.size := hcu1.lt
  go_wp2_with fail
  refine (l01Below g 3 _ hcu1b (WalkArith.wf_i64 (by omega))).mono ?_
  rintro e w2 ⟨z, hz, rfl, hcu2, ho2⟩
  have hz2 : 0 ≤ z ∧ z ≤ 2 := by omega
  have kP4 := kP2.only ho2 (by simp; omega)
  have kR4 := kR2.only ho2 (by simp; omega)
  have hot2 := hot1b.trans ho2
  have hO4 : w2.ownsRow (w1.heap.size + 1) 31 1 (.slice none 0 0) 0 [] := ⟨rfl, .inl ⟨rfl, rfl⟩⟩
  have hC4 : CodesOwn w2 (w1.heap.size + 1) [] [] := trivial
  clear kR1 kR2 kP2 hcu1 hcu1b ho2 hot1 hot1b hz
  go_wp2_with fail
  go_loopw [7] (fun j wr => ∃ (t : Nat) (xss : List (List Ins)) (vs : List Value) (Ac : Option Addr) (cc : Nat), (t : Int) ≤ 1 + z ∧ j = .int .i64 t ∧ cc ≤ 9223372036854775807 ∧ t ≤ cc ∧ Hid (xss.length = t ∧ SmallSS xss) ∧ wr.ownsRow (w1.heap.size + 1) 31 1 (.slice Ac t cc) t vs ∧ CodesOwn wr (w1.heap.size + 1) vs xss ∧ Bk wr w1.heap.size #[.int .i64 (1 + x), .slice Ac t cc] 26 ∧ Bk wr w.heap.size #[.int .i64 0, .slice none 0 0] 26 ∧ Cur lo wr g ∧ Only [g] w wr) (fun j _ => 3 - (intOf j).toNat)
  case atStart => exact ⟨0, [], [], none, 0, by omega, rfl, by omega, Nat.le_refl _, Lib.hid ⟨rfl, by intro a ha; cases ha⟩, hO4, hC4, kP4, kR4, hcu2, hot2⟩
  case round =>
    obtain ⟨t, xss, vs, Ac, cc, ht, rfl, hcm, htc, HX, hO, hC, kP, kR, hcu, ho⟩ := hrel
    clear hO4 hC4 kP4 kR4 hcu2 hot2
    by_cases hlt : (t : Int) < 1 + z
    · go_wp2_with fail
      refine (l01Below g most _ hcu (WalkArith.wf_i64 (by omega))).mono ?_
      rintro e wA ⟨y, hy, rfl, hcuA, hoA⟩
      have hy2 : 0 ≤ y ∧ y ≤ 15 := by omega
      have hsr : w1.heap.size + 1 ≤ wr.heap.size := kP.lt
      have kPA := kP.only hoA (by simp; omega)
      have kRA := kR.only hoA (by simp; omega)
      have HS := Lib.hid (And.intro hO (And.intro hC (And.intro hoA (And.intro kP kR))))
      clear hO hC kP kR hcu hoA hy
      go_upto_region 7 with (fail)
      go_cut [31] (fun c wx => ∃ b : Bool, c = .bool b ∧ wx = wA)
      case first =>
        by_cases h3 : 1 + z = 3
        · have hb3 : ((1 + z : Int) == 3) = true := by simp [h3]
          clear h3
          by_cases h4 : 3 < 1 + y
          · go_wp2_with fail
            go_meet
            exact ⟨true, rfl, rfl⟩
          · go_wp2_with fail
            go_meet
            exact ⟨false, rfl, rfl⟩
        · have hb3 : ((1 + z : Int) == 3) = false := by simp [h3]
          clear h3
          go_wp2_with fail
          go_meet
          exact ⟨false, rfl, rfl⟩
      case rest =>
        obtain ⟨b, rfl, rfl⟩ := hcut
        go_upto_if 31 with (fail)
        go_cut [8] (fun v wx => ∃ K : Nat, 1 ≤ K ∧ K ≤ 16 ∧ v = .int .i64 K ∧ wx = wc)
        case first =>
          cases b
          · go_wp2_with fail
            go_meet
            exact ⟨(1 + y).toNat, by omega, by omega, by rw [Int.toNat_of_nonneg (by omega)], rfl⟩
          · go_wp2_with fail
            go_meet
            exact ⟨3, by omega, by omega, rfl, rfl⟩
        case rest =>
          obtain ⟨K, hK1, hK2, rfl, rfl⟩ := hcut
          obtain ⟨hpx0, hpf0⟩ := kPA.at_ 0 rfl
          go_wp2_with fail
          refine (l02DrawCode g (1 + x) K _ hcuA (by omega) (by omega)).mono ?_
          rintro e wB ⟨vC, L, rfl, hLK, hsm, hOB, hcuB, hoB⟩
          obtain ⟨AC, cC, rfl, hcC, hcCm⟩ := owns_slice hOB
          rw [hLK] at hOB hcC ⊢
          have kPB := kPA.only hoB (by simp; omega)
          have kRB := kRA.only hoB (by simp; omega)
          have HL := Lib.hid (And.intro hLK (And.intro hsm (And.intro hOB hoB)))
          clear hLK hsm hOB hoB hcuA kPA kRA hpx0 hpf0
          go_upto_region 10 with (fail)
          go_cut [43] (fun c wx => ∃ b : Bool, c = .bool b ∧ (b = true → 1 < K) ∧ Cur lo wx g ∧ Only [g] wB wx)
          case first =>
            go_wp2_with fail
            refine (l01Below g 3 _ hcuB (WalkArith.wf_i64 (by omega))).mono ?_
            rintro e wC ⟨q, hq, rfl, hcuC, hoC⟩
            have hq0 : 0 ≤ q := hq.1
            clear hq
            by_cases h5 : 0 < q
            · by_cases h6 : (1 : Int) < K
              · go_wp2_with fail
                go_meet
                exact ⟨true, rfl, fun _ => by omega, hcuC, hoC⟩
              · go_wp2_with fail
                go_meet
                exact ⟨false, congrArg Value.bool (by first | rfl | (simp; omega)), (fun h => by cases h), hcuC, hoC⟩
            · go_wp2_with fail
              go_meet
              exact ⟨false, congrArg Value.bool (by first | rfl | (simp; omega)), (fun h => by cases h), hcuC, hoC⟩
          case rest =>
            obtain ⟨b, rfl, hbK, hcuD, hoD⟩ := hcut
            have kPD := kPB.only hoD (by simp; omega)
            have kRD := kRB.only hoD (by simp; omega)
            have hOD := owns_onlyQ HL.out.2.2.1 hoD (by have := HL.out.2.2.2.size; have := HS.out.2.2.1.size; simp; omega)
            go_upto_if 43 with (fail)
            have hrw : Only [g] wr wc := (HS.out.2.2.1.trans HL.out.2.2.2).trans hoD
            have hOD2 := owns_mono hOD (base' := wr.heap.size) HS.out.2.2.1.size
            have HD := Lib.hid (And.intro hrw (And.intro hOD2 (And.intro kPD HL.out.2.1)))
            have HLK := Lib.hid HL.out.1
            clear hrw hOD hOD2 kPB kRB kRD hoD hcuB HL
            go_cut [9] (fun v wx => ∃ L' : List Ins, v = .slice AC K cC ∧ L'.length = K ∧ (∀ y ∈ L', SmallI y) ∧ wx.ownsRow wr.heap.size 37 4 (.slice AC K cC) K (flc L') ∧ Cur lo wx g ∧ Only [g] wr wx)
            case first =>
              cases b
              · clear kPD
                go_wp2_with fail
                go_meet
                exact ⟨L, rfl, HLK.out, HD.out.2.2.2, HD.out.2.1, hcuD, HD.out.1⟩
              · have hK1 : 1 < K := hbK rfl
                obtain ⟨gc, rfl, hgc⟩ := owns_formQ HD.out.2.1 (by omega)
                clear hbK kPD
                go_wp2_with fail
                refine (l01Below g 2 _ hcuD (WalkArith.wf_i64 (by omega))).mono ?_
                rintro e wE ⟨q1, hq1, rfl, hcuE, hoE⟩
                have hq1' : 0 ≤ q1 ∧ q1 ≤ 1 := by omega
                clear hq1 hcuD
                go_wp2_with fail
                refine (l01Below g 3 _ hcuE (WalkArith.wf_i64 (by omega))).mono ?_
                rintro e wF ⟨q2, hq2, rfl, hcuF, hoF⟩
                have hq2' : 0 ≤ q2 ∧ q2 ≤ 2 := by omega
                have hoF' := hoE.trans hoF
                have hOF := owns_onlyQ HD.out.2.1 hoF' (by simp; omega)
                have hl0 : 0 < L.length := by have := HLK.out; omega
                obtain ⟨a0, ha0⟩ : ∃ a, L[0]? = some a := ⟨L[0], List.getElem?_eq_getElem hl0⟩
                have hcA := fun j (hj : j < 4) => (hOF.cellAt j (by omega)).trans (by simpa using flc_at ha0 j hj)
                have hc0 : wF.cell? ⟨gc, 0, none⟩ = some (.int .i64 a0.o) := hcA 0 (by omega)
                have hc1 : wF.cell? ⟨gc, 1, none⟩ = some (.int .i64 a0.r) := hcA 1 (by omega)
                have hc2 : wF.cell? ⟨gc, 2, none⟩ = some (.int .i64 a0.s) := hcA 2 (by omega)
                have hc3 : wF.cell? ⟨gc, 3, none⟩ = some (.int .i64 a0.n) := hcA 3 (by omega)
                have hf0 := hOF.frozenAt 0
                have hf1 := hOF.frozenAt 1
                have hf2 := hOF.frozenAt 2
                have hf3 := hOF.frozenAt 3
                have hO0 := owns_putI hOF 0 ⟨0, q1, 0, 1 + q2⟩ hl0
                have kPF := HD.out.2.2.1.only hoF' (by simp; omega)
                have hM0 : Hid (Mid12 g lo w1.heap.size gc wr (1 + x) (.slice Ac t cc) K cC (L.set 0 ⟨0, q1, 0, 1 + q2⟩) ((((wF.setCell ⟨gc, 0, none⟩ (.int .i64 0)).setCell ⟨gc, 1, none⟩ (.int .i64 q1)).setCell ⟨gc, 2, none⟩ (.int .i64 0)).setCell ⟨gc, 3, none⟩ (.int .i64 (1 + q2)))) := Lib.hid ⟨
                  (((hcuF.setFar (p := ⟨gc, 0, none⟩) (by show g < gc; omega) _).setFar (p := ⟨gc, 1, none⟩) (by show g < gc; omega) _).setFar (p := ⟨gc, 2, none⟩) (by show g < gc; omega) _).setFar (p := ⟨gc, 3, none⟩) (by show g < gc; omega) _,
                  ((((HD.out.1.trans hoF').setNew (p := ⟨gc, 0, none⟩) hgc _).setNew (p := ⟨gc, 1, none⟩) hgc _).setNew (p := ⟨gc, 2, none⟩) hgc _).setNew (p := ⟨gc, 3, none⟩) hgc _,
                  (((kPF.far (p := ⟨gc, 0, none⟩) (by show w1.heap.size ≠ gc; omega) _).far (p := ⟨gc, 1, none⟩) (by show w1.heap.size ≠ gc; omega) _).far (p := ⟨gc, 2, none⟩) (by show w1.heap.size ≠ gc; omega) _).far (p := ⟨gc, 3, none⟩) (by show w1.heap.size ≠ gc; omega) _,
                  _, hO0, fun _ _ => rfl⟩
                have HL1 : Hid ((L.set 0 (⟨0, q1, 0, 1 + q2⟩ : Ins)).length = K ∧ (∀ y ∈ L.set 0 (⟨0, q1, 0, 1 + q2⟩ : Ins), SmallI y) ∧ (L.set 0 (⟨0, q1, 0, 1 + q2⟩ : Ins))[0]? = some ⟨0, q1, 0, 1 + q2⟩) := Lib.hid ⟨by rw [List.length_set]; exact HLK.out, small_set HD.out.2.2.2 (by unfold SmallI; simp; omega), by rw [List.getElem?_set_self hl0]⟩
                generalize L.set 0 (⟨0, q1, 0, 1 + q2⟩ : Ins) = L1 at hM0 HL1
                clear hcA hO0 kPF hcuE hcuF hoE hoF hoF' hOF ha0 hl0 hq2
                go_upto_region 12 with (fail)
                have hz3 : 0 ≤ 1 + x ∧ 1 + x ≤ 3 := by omega
                have hKa : (0 : Int) < K := by omega
                have hKb : (1 : Int) < K := by omega
                have hKc : 0 < K := by omega
                have hgr : w1.heap.size < wr.heap.size := by omega
                go_region_held3 (fun W => W.cell? ⟨gc, 1, none⟩ = some (.int .i64 q1) ∧ W.cell? ⟨w1.heap.size, 0, none⟩ = some (.int .i64 (1 + x)) ∧ Hid (Mid12 g lo w1.heap.size gc wr (1 + x) (.slice Ac t cc) K cC L1 W))
                  (first
                    | (exact mid_held (hM0.out.drew hgn hgr) HL1.out.2.2 hK1)
                    | (exact mid_held (Hid.out (by assumption)) HL1.out.2.2 hK1)
                    | (exact mid_held ((((Mid12.store (Hid.out (by assumption)) hgn hgr hgc 4 (by omega) _).store hgn hgr hgc 5 (by omega) _).store hgn hgr hgc 6 (by omega) _).store hgn hgr hgc 7 (by omega) _) HL1.out.2.2 hK1))
                  (first
                    | (go_at_call 47; have hS := (‹_ ∧ _ ∧ Hid (Mid12 g lo w1.heap.size gc wr (1 + x) (.slice Ac t cc) K cC L1 _)›).2.2; refine (l01Below g (1 + x) _ hS.out.1 (WalkArith.wf_i64 (by omega))).mono ?_; rintro e w9 ⟨q3, hq3, rfl, hc9, ho9⟩; have hq3' : 0 ≤ q3 ∧ q3 ≤ 2 := (by omega); have hS9 := Lib.hid (hS.out.go hc9 ho9 hgn hgr); obtain ⟨⟨v4, hc4⟩, hf4⟩ := hS9.out.cell hK1 4 (by omega); obtain ⟨⟨v5, hc5⟩, hf5⟩ := hS9.out.cell hK1 5 (by omega); obtain ⟨⟨v6, hc6⟩, hf6⟩ := hS9.out.cell hK1 6 (by omega); obtain ⟨⟨v7, hc7⟩, hf7⟩ := hS9.out.cell hK1 7 (by omega); clear hS hq3))
                all_goals
                  go_wp2_with fail
                  go_meet
                  exact ⟨L1.set 1 ⟨3, q1, 0, q3⟩, rfl, by rw [List.length_set]; exact HL1.out.1, small_set HL1.out.2.1 (by unfold SmallI; simp; omega), hS9.out.done HL1.out.1 hK1 ⟨3, q1, 0, q3⟩,
                    (((hS9.out.1.setFar (p := ⟨gc, 4, none⟩) (by show g < gc; omega) _).setFar (p := ⟨gc, 5, none⟩) (by show g < gc; omega) _).setFar (p := ⟨gc, 6, none⟩) (by show g < gc; omega) _).setFar (p := ⟨gc, 7, none⟩) (by show g < gc; omega) _,
                    (((hS9.out.2.1.setNew (p := ⟨gc, 4, none⟩) hgc _).setNew (p := ⟨gc, 5, none⟩) hgc _).setNew (p := ⟨gc, 6, none⟩) hgc _).setNew (p := ⟨gc, 7, none⟩) hgc _⟩
            case rest =>
              obtain ⟨L', rfl, hL', hsm, hOn, hcuN, hrN⟩ := hcut
              have kPN := HS.out.2.2.2.1.only hrN (by simp; omega)
              have kRN := HS.out.2.2.2.2.only hrN (by simp; omega)
              have hOP := owns_onlyQ HS.out.1 hrN (by simp; omega)
              have hCP := HS.out.2.1.map (W' := wc) (lo' := w1.heap.size + 1) fun v n cs h => owns_onlyQ h hrN (by simp; omega)
              have hsz : w1.heap.size + 1 ≤ wc.heap.size := by have := hrN.size; omega
              have hBt : Below (w1.heap.size + 1) wc wc := Below.refl _ _
              obtain ⟨hpx1, hpf1⟩ := kPN.at_ 1 rfl
              have hoN := ho.trans hrN
              have HN := Lib.hid (And.intro hCP (And.intro (owns_mono hOn (base' := w1.heap.size + 1) hsr) (And.intro hcuN (And.intro hoN (And.intro hL' hsm)))))
              have ht3 : t ≤ 2 := by omega
              clear hCP hOn hcuN hoN hrN hL' hsm ho
              go_wp2_with (at_builtin; refine wpList_append_own _ rfl _ _ 24 rfl (w1.heap.size+1) 31 i (.slice none 0 0) 1 24 Tryz.underlying24 hi hiz0 hiz1 hiz2 rfl (by decide) _ _ _ rfl (hOP.alloc _) ⟨wc.heap.size, 0, none⟩ 1 1 [.slice AC K cC] rfl rfl (new_cells _ _ _) (by simp [Value.oneCell']) (by unfold maxLen; omega) (by omega) (by have := hsz; simp; omega) ?_)
              intro vo3 w3 ho6 hg6 _
              have hB6 := (hBt.alloc hsz _).grown hg6 (by have := hsz; simp; omega) (fun k hk => by have := (hOP.lt k hk).1; omega)
              have hO6 : w3.ownsRow (w1.heap.size + 1) 31 1 vo3 (t + 1) (vs ++ [.slice AC K cC]) := ho6
              obtain ⟨A3, c3, rfl, hc3, hc3m⟩ := owns_slice hO6
              have kP6 := kPN.below hB6 (by omega)
              have kR6 := kRN.below hB6 (by omega)
              have kP7 := kP6.set_ 1 (.slice A3 (t + 1) c3)
              have kR7 := kR6.far (p := ⟨w1.heap.size, 1, none⟩) (by show w.heap.size ≠ w1.heap.size; omega) (.slice A3 (t + 1) c3)
              obtain ⟨hpy1, hpg1⟩ := kP6.at_ 1 rfl
              have hCn := HN.out.2.1
              have hC6 : CodesOwn w3 (w1.heap.size + 1) (vs ++ [.slice AC K cC]) (xss ++ [L']) := by
                refine CodesOwn.snoc ?_ (HN.out.1.map fun v n cs h => (h.alloc (.cells #[.slice AC K cC] 31)).kept hg6 (own_ne (h.alloc (.cells #[.slice AC K cC] 31)) (hOP.alloc (.cells #[.slice AC K cC] 31)) (by decide)))
                rw [HN.out.2.2.2.2.1]
                exact (hCn.alloc (.cells #[.slice AC K cC] 31)).kept hg6 (own_ne (hCn.alloc (.cells #[.slice AC K cC] 31)) (hOP.alloc (.cells #[.slice AC K cC] 31)) (by decide))
              have hC7 := hC6.map (W' := w3.setCell ⟨w1.heap.size, 1, none⟩ (.slice A3 (t + 1) c3)) fun v n cs h => ownsRow_setCell_below h (by show w1.heap.size < w1.heap.size + 1; omega) _
              have hO7 := ownsRow_setCell_below (a := ⟨w1.heap.size, 1, none⟩) hO6 (by show w1.heap.size < w1.heap.size + 1; omega) (.slice A3 (t + 1) c3)
              have hcu7 := (HN.out.2.2.1.belowB hB6 (by omega)).setFar (p := ⟨w1.heap.size, 1, none⟩) hgn (.slice A3 (t + 1) c3)
              have ho7 := (HN.out.2.2.2.1.thenBelow hB6 (by omega)).setNew (p := ⟨w1.heap.size, 1, none⟩) (by show w.heap.size ≤ w1.heap.size; omega) (.slice A3 (t + 1) c3)
              have hX7 : (xss ++ [L']).length = t + 1 ∧ SmallSS (xss ++ [L']) := ⟨by simp [HX.out.1], fun xs hx => by
                rcases List.mem_append.1 hx with hx | hx
                · exact HX.out.2 xs hx
                · rw [List.mem_singleton] at hx
                  subst hx
                  exact ⟨by rw [HN.out.2.2.2.2.1]; exact hK2, HN.out.2.2.2.2.2⟩⟩
              have HE := Lib.hid (And.intro hX7 (And.intro hO7 (And.intro hC7 (And.intro kP7 (And.intro kR7 (And.intro hcu7 ho7))))))
              clear hX7 hO7 hC7 kP7 kR7 hcu7 ho7 hC6 hCn hO6 ho6 hOP hg6 kP6 kR6 kPN kRN
              go_wp2_with fail
              exact ⟨⟨t + 1, _, _, A3, c3, by omega, by go_num, hc3m, hc3, Lib.hid HE.out.1, HE.out.2.1, HE.out.2.2.1, HE.out.2.2.2.1, HE.out.2.2.2.2.1, HE.out.2.2.2.2.2.1, HE.out.2.2.2.2.2.2⟩, by simp [intOf]; omega⟩
    · obtain ⟨hp0, -⟩ := kP.at_ 0 rfl
      obtain ⟨hp1, -⟩ := kP.at_ 1 rfl
      obtain ⟨hr0, hrf0⟩ := kR.at_ 0 rfl
      obtain ⟨hr1, hrf1⟩ := kR.at_ 1 rfl
      have kF := (kR.set_ 0 (.int .i64 (1 + x))).set_ 1 (.slice Ac t cc)
      obtain ⟨hq0, -⟩ := kF.at_ 0 rfl
      obtain ⟨hq1, -⟩ := kF.at_ 1 rfl
      have HE := Lib.hid (And.intro hO (And.intro hC (And.intro hcu ho)))
      clear hO hC hcu ho
      go_wp2_with fail
      exact bodyPost_ret (v := .agg #[.int .i64 (1 + x), .slice Ac t cc]) (by simp [results, Tryz.results22, go_sem, hq0, hq1]) rfl ⟨_, 1 + x, xss, w1.heap.size + 1, rfl, by omega, by have := HX.out.1; omega, HX.out.2, by omega, ⟨vs, by rw [HX.out.1]; exact ownsRow_setCell_below (ownsRow_setCell_below HE.out.1 (by show w.heap.size < w1.heap.size + 1; omega) _) (by show w.heap.size < w1.heap.size + 1; omega) _, (HE.out.2.1.map fun v n cs h => ownsRow_setCell_below (ownsRow_setCell_below h (by show w.heap.size < w1.heap.size + 1; omega) _) (by show w.heap.size < w1.heap.size + 1; omega) _)⟩, (HE.out.2.2.1.setFar (p := ⟨w.heap.size, 0, none⟩) hg _).setFar (p := ⟨w.heap.size, 1, none⟩) hg _, (HE.out.2.2.2.setNew (p := ⟨w.heap.size, 0, none⟩) (Nat.le_refl _) _).setNew (p := ⟨w.heap.size, 1, none⟩) (Nat.le_refl _) _⟩
end Go.Proofs.YtgbgjlmkmlhefaaGreatDoor

/- Contracts of the bend of a program and of the drawn program (package spec). Conditions: the cursor's bytes can be read. -/
namespace Go.Proofs.YtgbgjlmkmlhefaaGreatDoor
set_option maxRecDepth 20000
set_option linter.unusedSimpArgs false
set_option linter.unusedVariables false
open Go.ChangeShapes Go.WideShapes Go.ChangeAt Go.RowKit
set_option linter.unusedVariables false
theorem owns_formT {w : World} {base : Nat} {e : TypeId} {size : Nat} {A : Option Addr} {n m c : Nat} {xs : List Value} (h : w.ownsRow base e size (.slice A m c) n xs) (hn : 0 < n) : ∃ g, A = some ⟨g, 0, none⟩ ∧ base ≤ g := by
  obtain ⟨_, ⟨_, h0⟩ | ⟨g, cap, cur, h1, h2, _⟩⟩ := h
  · omega
  · injection h1 with h1
    exact ⟨g, h1, h2⟩
theorem Byt.allocT {w : World} {A : Option Addr} {n : Nat} (h : Byt w A n) (o : Obj) : Byt (w.alloc o) A n :=
  h.keep (B := 0) (fun ad ha hn => by obtain ⟨ad', e1, e2, _⟩ := h hn; rw [ha] at e1; injection e1 with e1; subst e1; exact Below.heap_alloc w _ _ e2) (by simp)
theorem rd_nil (w : World) (size : Nat) : Rd w (.slice none 0 0) size 0 [] := ⟨none, 0, rfl, by simp, Nat.le_refl _, by unfold maxLen; omega, fun h => by omega⟩
theorem owns_setT {w : World} {base size n b j : Nat} {e t : TypeId} {v : Value} {xs : List Value} {cs : Array Value} (h : w.ownsRow base e size v n xs) (k : Bk w b cs t) (he : e ≠ t) (u : Value) : (w.setCell ⟨b, j, none⟩ u).ownsRow base e size v n xs := by
  obtain ⟨h1, h2⟩ := h
  refine ⟨h1, ?_⟩
  rcases h2 with h2 | ⟨g, cap, cur, e1, e2, e3, e4⟩
  · exact .inl h2
  · refine .inr ⟨g, cap, cur, e1, e2, (Below.heap_setCell w ⟨b, j, none⟩ u g ?_).trans e3, e4⟩
    intro hh
    simp only at hh
    subst hh
    unfold Bk at k
    rw [e3] at k
    simp only [Option.some.injEq, Obj.cells.injEq] at k
    exact he k.2.1
theorem owns_neT {w : World} {base size n b : Nat} {e t : TypeId} {v : Value} {xs : List Value} {cs : Array Value} (h : w.ownsRow base e size v n xs) (k : Bk w b cs t) (he : e ≠ t) : ∀ q, v.ownBlock = some q → b ≠ q := by
  intro q hq hh
  subst hh
  rcases h.2 with ⟨rfl, _⟩ | ⟨g, cap, cur, rfl, e2, e3, e4⟩
  · cases hq
  · simp only [Value.ownBlock, Option.some.injEq] at hq
    subst hq
    unfold Bk at k
    rw [e3] at k
    simp only [Option.some.injEq, Obj.cells.injEq] at k
    exact he k.2.1
theorem ProgOwn.setT {w : World} {lo b j : Nat} {v : Value} {xss : List (List Ins)} {cs : Array Value} (h : ProgOwn w lo v xss) (k : Bk w b cs 26) (u : Value) : ProgOwn (w.setCell ⟨b, j, none⟩ u) lo v xss := by
  obtain ⟨vs, h1, h2⟩ := h
  exact ⟨vs, owns_setT h1 k (by decide) u, h2.map fun v n cs h => owns_setT h k (by decide) u⟩
/-- what the bend leaves: some readable program -/
def SmallL (xss : List (List Ins)) : Prop := xss.length ≤ 5 ∧ ∀ xs ∈ xss, xs.length ≤ 16
theorem SmallL.of {xss : List (List Ins)} (h : SmallSS xss) (h3 : xss.length ≤ 3) : SmallL xss := ⟨by omega, fun xs hx => (h xs hx).1⟩
theorem SmallL.two {xss : List (List Ins)} (h : SmallSS xss) (h3 : xss.length ≤ 3) : SmallL (xss ++ [[]] ++ [[]]) := by
  refine ⟨by simp; omega, fun xs hx => ?_⟩
  rw [List.mem_append, List.mem_append, List.mem_singleton] at hx
  rcases hx with (hx | rfl) | rfl
  · exact (h xs hx).1
  · simp
  · simp
theorem SmallL.putHead {x0 : List Ins} {rest xss : List (List Ins)} {j : Nat} {y : Ins} (e : xss = x0 :: rest) (h : SmallSS xss) (h3 : xss.length ≤ 3) : SmallL (x0.set j y :: rest) := by
  subst e
  refine ⟨by simp at h3 ⊢; omega, fun xs hx => ?_⟩
  rcases List.mem_cons.1 hx with rfl | hx
  · rw [List.length_set]
    exact (h x0 (List.mem_cons_self ..)).1
  · exact (h xs (List.mem_cons_of_mem _ hx)).1
def BentP (B lo1 g : Nat) (w : World) (e : Ending) (w' : World) : Prop := ∃ (v : Value) (c : Int) (xss : List (List Ins)) (lo : Nat), e = .returned (.agg #[.int .i64 c, v]) ∧ ProgOwn w' lo v xss ∧ Below B w w' ∧ (g < lo ∧ Cur lo1 w' g ∧ SmallL xss) ∧ ∀ b cs, Bk w b cs 26 → Bk w' b cs 26
set_option maxHeartbeats 3200000 in
theorem l02Bend (B g : Nat) (v : Value) (c : Int) (xss : List (List Ins)) (w : World) {lo lo1 : Nat} (h : Cur lo w g) (hP : ProgOwn w lo1 v xss) (hS : SmallSS xss) (hx3 : xss.length ≤ 3) (hBg : B ≤ g) (hgl : g < lo1) (hll : lo1 ≤ w.heap.size) :
    Calls Tryz.prog 25 #[.pointer (some ⟨g, 0, none⟩), .agg #[.int .i64 c, v]] w (BentP B lo g w) := by
  have hg := h.lt
  have hgk : Hid (∀ b cs, Bk w b cs 26 → b ≠ g) := Lib.hid (by
    intro b cs k hh
    subst hh
    obtain ⟨_, _, _, _, _, hk, _⟩ := h
    unfold Bk at hk k
    rw [k] at hk
    simp at hk)
  obtain ⟨i, hi, hiz0, hiz1, hiz2⟩ := info_parts infoCodesD
  obtain ⟨A, cv, rfl, hnc, hcm⟩ : ∃ A cv, v = .slice A xss.length cv ∧ xss.length ≤ cv ∧ cv ≤ 9223372036854775807 := by
    obtain ⟨vs, h1, h2⟩ := hP
    exact owns_slice h1
  have kB := (Bk.new w #[.int .i64 c, .slice A xss.length cv] 26).alloc (.cells #[.int .i64 0, .slice none 0 0] 26)
  have kA := Bk.new (w.alloc (.cells #[.int .i64 c, .slice A xss.length cv] 26)) #[.int .i64 0, .slice none 0 0] 26
  rw [World.size_alloc] at kA
  have hb0 := ((Below.refl _ w).alloc (Nat.le_refl _) (.cells #[.int .i64 c, .slice A xss.length cv] 26)).alloc (by simp) (.cells #[.int .i64 0, .slice none 0 0] 26)
  have hcu := h.below hb0
  have hPr := hP.below hb0
  have ho := Only.of_below hb0 [g]
  go_enter Tryz.func25, Tryz.ntmps25
  go_wp2_with fail
  refine (l01Below g 4 _ hcu (WalkArith.wf_i64 (by omega))).mono ?_
  rintro e w1 ⟨x, hx, rfl, hcu1, ho1⟩
  have kA1 := kA.only ho1 (by simp; omega)
  have kB1 := kB.only ho1 (by simp; omega)
  have hP1 := hPr.only ho1 hgl
  have hot1 := ho.trans ho1
  have hz1 : w.heap.size + 2 ≤ w1.heap.size := by have := ho1.size; simpa using this
  have hx4 : x = 0 ∨ x = 1 ∨ x = 2 ∨ x = 3 := by omega
  clear kA kB hcu hPr ho ho1 hx hb0 hP
  rcases hx4 with rfl | rfl | rfl | rfl
  · have HP : Hid (Rd (w1.alloc (.cells #[.int .i64 0, .int .i64 1, .int .i64 16, .int .i64 17] 3)) (.slice (some ⟨w1.heap.size, 0, none⟩) 4 4) 1 4 (ints [0, 1, 16, 17])) := Lib.hid (by exact rd_lit w1 [0, 1, 16, 17] 3 (by simp))
    have kA3 := kA1.alloc (.cells #[.int .i64 0, .int .i64 1, .int .i64 16, .int .i64 17] 3)
    have kB3 := kB1.alloc (.cells #[.int .i64 0, .int .i64 1, .int .i64 16, .int .i64 17] 3)
    have hb3 := (Below.refl _ w1).alloc (Nat.le_refl _) (.cells #[.int .i64 0, .int .i64 1, .int .i64 16, .int .i64 17] 3)
    have hcu3 := hcu1.below hb3
    have hP3 := hP1.below hb3
    have hot3 := hot1.alloc (.cells #[.int .i64 0, .int .i64 1, .int .i64 16, .int .i64 17] 3)
    clear kA1 kB1 hcu1 hot1 hP1 hb3
    go_wp2_with fail
    refine (l01PickInt g _ [0, 1, 16, 17] _ hcu3 HP.out (by simp) (by intro A n c he ad ha; injection he with e1; subst e1; injection ha with ha; subst ha; simp; omega)).mono ?_
    rintro e w4 ⟨z, hzz, rfl, hcu4, ho4⟩
    have kB4 := kB3.only ho4 (by simp; omega)
    have kA4 := kA3.only ho4 (by simp; omega)
    have kB5 := kB4.set_ 0 (.int .i64 z)
    have kA5 := kA4.far (p := ⟨w.heap.size, 0, none⟩) (by show w.heap.size + 1 ≠ w.heap.size; omega) (.int .i64 z)
    have hP4 := hP3.only ho4 hgl
    have hot4 := hot3.trans ho4
    obtain ⟨hbx0, hbf0⟩ := kB4.at_ 0 rfl
    obtain ⟨hcx0, hcf0⟩ := kB5.at_ 0 rfl
    obtain ⟨hcx1, hcf1⟩ := kB5.at_ 1 rfl
    obtain ⟨hax0, haf0⟩ := kA5.at_ 0 rfl
    obtain ⟨hax1, haf1⟩ := kA5.at_ 1 rfl
    have kF := (kA5.set_ 0 (.int .i64 z)).set_ 1 (.slice A xss.length cv)
    obtain ⟨hr0, -⟩ := kF.at_ 0 rfl
    obtain ⟨hr1, -⟩ := kF.at_ 1 rfl
    have HE := Lib.hid (And.intro hP4 hot4)
    have HCU := Lib.hid hcu4
    clear hzz hP4 hot4 hot3 hP3 ho4 hcu3 hcu4
    go_wp2_with fail
    have hF := ((HE.out.2.setNew (p := ⟨w.heap.size, 0, none⟩) (Nat.le_refl _) (.int .i64 z)).setNew (p := ⟨w.heap.size + 1, 0, none⟩) (by show w.heap.size ≤ w.heap.size + 1; omega) (.int .i64 z)).setNew (p := ⟨w.heap.size + 1, 1, none⟩) (by show w.heap.size ≤ w.heap.size + 1; omega) (.slice A xss.length cv)
    exact bodyPost_ret (v := .agg #[.int .i64 z, .slice A xss.length cv]) (by simp [results, Tryz.results25, go_sem, hr0, hr1]) rfl
      ⟨_, z, xss, lo1, rfl, (HE.out.1.setT kB4 _ |>.setT kA5 _ |>.setT (kA5.set_ 0 (.int .i64 z)) _), hF.below (by omega) (by simpa using hBg), ⟨hgl, (((HCU.out).setFar (p := ⟨w.heap.size, 0, none⟩) (by show g < w.heap.size; exact hg) _).setFar (p := ⟨w.heap.size + 1, 0, none⟩) (by show g < w.heap.size + 1; omega) _).setFar (p := ⟨w.heap.size + 1, 1, none⟩) (by show g < w.heap.size + 1; omega) _, SmallL.of hS hx3⟩, fun b cs k => k.only hF (by simpa using hgk.out b cs k)⟩
  · obtain ⟨hbx0, hbf0⟩ := kB1.at_ 0 rfl
    obtain ⟨hbx1, hbf1⟩ := kB1.at_ 1 rfl
    obtain ⟨vs, hO1, hC1⟩ := hP1
    have hsz : lo1 ≤ w1.heap.size := by omega
    have hBt : Below lo1 w1 w1 := Below.refl _ _
    have HC := Lib.hid hC1
    clear hC1
    go_wp2_with (at_builtin; refine wpList_append_own _ rfl _ _ 24 rfl (lo1) 31 i (.slice none 0 0) 1 24 Tryz.underlying24 hi hiz0 hiz1 hiz2 rfl (by decide) _ _ _ rfl (hO1.alloc _) ⟨w1.heap.size, 0, none⟩ 2 2 [.slice none 0 0, .slice none 0 0] rfl rfl (new_cells _ _ _) (by simp [Value.oneCell']) (by unfold maxLen; omega) (by omega) (by have := hsz; simp; omega) ?_)
    intro vo3 w3 ho6 hg6 _
    have hB6 := (hBt.alloc hsz _).grown hg6 (by have := hsz; simp; omega) (fun k hk => by have := (hO1.lt k hk).1; omega)
    have hO6 : w3.ownsRow lo1 31 1 vo3 (xss.length + 2) (vs ++ [.slice none 0 0, .slice none 0 0]) := ho6
    obtain ⟨A3, c3, rfl, hc3, hc3m⟩ := owns_slice hO6
    have hN : Obj := .cells #[.slice none 0 0, .slice none 0 0] 31
    have kB3 := (kB1.alloc (.cells #[.slice none 0 0, .slice none 0 0] 31)).grown hg6 (owns_neT hO1 kB1 (by decide))
    have kA3 := (kA1.alloc (.cells #[.slice none 0 0, .slice none 0 0] 31)).grown hg6 (owns_neT hO1 kA1 (by decide))
    have hnil : w3.ownsRow lo1 37 4 (.slice none 0 0) ([] : List Ins).length (flc []) := ⟨rfl, .inl ⟨rfl, rfl⟩⟩
    have hC3 := CodesOwn.snoc hnil (CodesOwn.snoc hnil (HC.out.map fun v n cs h => (h.alloc (.cells #[.slice none 0 0, .slice none 0 0] 31)).kept hg6 (own_ne (h.alloc (.cells #[.slice none 0 0, .slice none 0 0] 31)) (hO1.alloc (.cells #[.slice none 0 0, .slice none 0 0] 31)) (by decide))))
    have hP3 : ProgOwn w3 lo1 (.slice A3 (xss.length + 2) c3) (xss ++ [[]] ++ [[]]) := ⟨_, by simpa using hO6, by simpa using hC3⟩
    have kB5 := kB3.set_ 1 (.slice A3 (xss.length + 2) c3)
    have kA5 := kA3.far (p := ⟨w.heap.size, 1, none⟩) (by show w.heap.size + 1 ≠ w.heap.size; omega) (.slice A3 (xss.length + 2) c3)
    obtain ⟨hdx1, hdf1⟩ := kB3.at_ 1 rfl
    obtain ⟨hcx0, hcf0⟩ := kB5.at_ 0 rfl
    obtain ⟨hcx1, hcf1⟩ := kB5.at_ 1 rfl
    obtain ⟨hax0, haf0⟩ := kA5.at_ 0 rfl
    obtain ⟨hax1, haf1⟩ := kA5.at_ 1 rfl
    have kF := (kA5.set_ 0 (.int .i64 c)).set_ 1 (.slice A3 (xss.length + 2) c3)
    obtain ⟨hr0, -⟩ := kF.at_ 0 rfl
    obtain ⟨hr1, -⟩ := kF.at_ 1 rfl
    have hBB : Below B w w3 := (hot1.below (by omega) (by simpa using hBg)).trans (hB6.mono (by omega))
    have hK3 : ∀ b cs, Bk w b cs 26 → Bk w3 b cs 26 := fun b cs k => by
      have k1 := k.only hot1 (by simpa using hgk.out b cs k)
      exact (k1.alloc (.cells #[.slice none 0 0, .slice none 0 0] 31)).grown hg6 (owns_neT hO1 k1 (by decide))
    have HE := Lib.hid (And.intro hP3 (And.intro hBB hK3))
    have HCU := Lib.hid (hcu1.belowB hB6 hgl)
    clear hP3 hBB hK3 hC3 hO6 ho6 hO1 hg6 hot1 hcu1 hB6 hBt hN
    go_wp2_with fail
    exact bodyPost_ret (v := .agg #[.int .i64 c, .slice A3 (xss.length + 2) c3]) (by simp [results, Tryz.results25, go_sem, hr0, hr1]) rfl
      ⟨_, c, _, lo1, rfl, (HE.out.1.setT kB3 _ |>.setT kA5 _ |>.setT (kA5.set_ 0 (.int .i64 c)) _), ((HE.out.2.1.setCell (p := ⟨w.heap.size, 1, none⟩) (by show B ≤ w.heap.size; omega) _).setCell (p := ⟨w.heap.size + 1, 0, none⟩) (by show B ≤ w.heap.size + 1; omega) _).setCell (p := ⟨w.heap.size + 1, 1, none⟩) (by show B ≤ w.heap.size + 1; omega) _, ⟨hgl, (((HCU.out).setFar (p := ⟨w.heap.size, 1, none⟩) (by show g < w.heap.size; exact hg) _).setFar (p := ⟨w.heap.size + 1, 0, none⟩) (by show g < w.heap.size + 1; omega) _).setFar (p := ⟨w.heap.size + 1, 1, none⟩) (by show g < w.heap.size + 1; omega) _, SmallL.two hS hx3⟩, fun b cs k => (((HE.out.2.2 b cs k).far (p := ⟨w.heap.size, 1, none⟩) (by have := k.lt; show b ≠ w.heap.size; omega) _).far (p := ⟨w.heap.size + 1, 0, none⟩) (by have := k.lt; show b ≠ w.heap.size + 1; omega) _).far (p := ⟨w.heap.size + 1, 1, none⟩) (by have := k.lt; show b ≠ w.heap.size + 1; omega) _⟩
  · have kB5 := kB1.set_ 1 (.slice none 0 0)
    have kA5 := kA1.far (p := ⟨w.heap.size, 1, none⟩) (by show w.heap.size + 1 ≠ w.heap.size; omega) (.slice none 0 0)
    obtain ⟨hbx1, hbf1⟩ := kB1.at_ 1 rfl
    obtain ⟨hcx0, hcf0⟩ := kB5.at_ 0 rfl
    obtain ⟨hcx1, hcf1⟩ := kB5.at_ 1 rfl
    obtain ⟨hax0, haf0⟩ := kA5.at_ 0 rfl
    obtain ⟨hax1, haf1⟩ := kA5.at_ 1 rfl
    have kF := (kA5.set_ 0 (.int .i64 c)).set_ 1 (.slice none 0 0)
    obtain ⟨hr0, -⟩ := kF.at_ 0 rfl
    obtain ⟨hr1, -⟩ := kF.at_ 1 rfl
    have HE := Lib.hid hot1
    have HCU := Lib.hid hcu1
    clear hP1 hot1 hcu1
    go_wp2_with fail
    have hF := ((HE.out.setNew (p := ⟨w.heap.size, 1, none⟩) (Nat.le_refl _) (.slice none 0 0)).setNew (p := ⟨w.heap.size + 1, 0, none⟩) (by show w.heap.size ≤ w.heap.size + 1; omega) (.int .i64 c)).setNew (p := ⟨w.heap.size + 1, 1, none⟩) (by show w.heap.size ≤ w.heap.size + 1; omega) (.slice none 0 0)
    exact bodyPost_ret (v := .agg #[.int .i64 c, .slice none 0 0]) (by simp [results, Tryz.results25, go_sem, hr0, hr1]) rfl
      ⟨_, c, [], lo1, rfl, ⟨[], ⟨rfl, .inl ⟨rfl, rfl⟩⟩, trivial⟩, hF.below (by omega) (by simpa using hBg), ⟨hgl, (((HCU.out).setFar (p := ⟨w.heap.size, 1, none⟩) (by show g < w.heap.size; exact hg) _).setFar (p := ⟨w.heap.size + 1, 0, none⟩) (by show g < w.heap.size + 1; omega) _).setFar (p := ⟨w.heap.size + 1, 1, none⟩) (by show g < w.heap.size + 1; omega) _, by simp, by simp⟩, fun b cs k => k.only hF (by simpa using hgk.out b cs k)⟩
  · obtain ⟨vs, hO1, hC1⟩ := hP1
    obtain ⟨m, hm⟩ : ∃ m, xss.length = m := ⟨_, rfl⟩
    have hvl := hC1.len
    rw [hm] at hO1 kB1 hnc hx3 hvl ⊢
    have HM := Lib.hid (And.intro hm hC1)
    have HM2 := Lib.hid hm
    have HS := Lib.hid hS
    clear hm hC1 hS
    obtain ⟨hbx0, hbf0⟩ := kB1.at_ 0 rfl
    obtain ⟨hbx1, hbf1⟩ := kB1.at_ 1 rfl
    obtain ⟨hax0, haf0⟩ := kA1.at_ 0 rfl
    obtain ⟨hax1, haf1⟩ := kA1.at_ 1 rfl
    have kF := (kA1.set_ 0 (.int .i64 c)).set_ 1 (.slice A m cv)
    obtain ⟨hr0, -⟩ := kF.at_ 0 rfl
    obtain ⟨hr1, -⟩ := kF.at_ 1 rfl
    have HO := Lib.hid (And.intro hO1 hot1)
    have HEnd : Hid (BentP B lo g w (.returned (.agg #[.int .i64 c, .slice A m cv])) ((w1.setCell ⟨w.heap.size + 1, 0, none⟩ (.int .i64 c)).setCell ⟨w.heap.size + 1, 1, none⟩ (.slice A m cv))) := Lib.hid (by
      have hP : ProgOwn w1 lo1 (.slice A m cv) xss := ⟨vs, by rw [HM.out.1]; exact hO1, HM.out.2⟩
      have hF := (hot1.setNew (p := ⟨w.heap.size + 1, 0, none⟩) (by show w.heap.size ≤ w.heap.size + 1; omega) (.int .i64 c)).setNew (p := ⟨w.heap.size + 1, 1, none⟩) (by show w.heap.size ≤ w.heap.size + 1; omega) (.slice A m cv)
      exact ⟨_, c, xss, lo1, rfl, (hP.setT kA1 _ |>.setT (kA1.set_ 0 (.int .i64 c)) _), hF.below (by omega) (by simpa using hBg), ⟨hgl, ((hcu1).setFar (p := ⟨w.heap.size + 1, 0, none⟩) (by show g < w.heap.size + 1; omega) _).setFar (p := ⟨w.heap.size + 1, 1, none⟩) (by show g < w.heap.size + 1; omega) _, SmallL.of HS.out (by rw [HM2.out]; exact hx3)⟩, fun b cs k => k.only hF (by simpa using hgk.out b cs k)⟩)
    by_cases hm0 : (0 : Int) < m
    · obtain ⟨gA, rfl, hgA⟩ := owns_formT hO1 (by omega)
      obtain ⟨x0, rest, hxs⟩ : ∃ x0 rest, xss = x0 :: rest := List.exists_cons_of_ne_nil (by intro hh; have := HM.out.1; rw [hh] at this; simp at this; omega)
      obtain ⟨v0, vr, hvs⟩ : ∃ v0 vr, vs = v0 :: vr := List.exists_cons_of_ne_nil (by intro hh; rw [hh] at hvl; simp at hvl; omega)
      have HC := HM.out.2
      rw [hxs, hvs] at HC
      obtain ⟨hO0, hCr⟩ := HC
      have hsm0 := HS.out x0 (by rw [hxs]; exact List.mem_cons_self ..)
      have hcr0 : w1.cell? ⟨gA, 0, none⟩ = some v0 := (hO1.cellAt 0 (by omega)).trans (by rw [hvs]; rfl)
      have hcf0 := hO1.frozenAt 0
      obtain ⟨A0, c0, rfl, hnc0, hcm0⟩ := owns_slice hO0
      obtain ⟨n0, hn0⟩ : ∃ n0, x0.length = n0 := ⟨_, rfl⟩
      have hRd0 : Rd w1 (.slice A0 n0 c0) 4 x0.length (flc x0) := by
        obtain ⟨bs, h1, -⟩ := Own.of_owns hO0
        rw [← hn0]
        exact h1.rd
      rw [hn0] at hcr0 hnc0
      have hn16 : n0 ≤ 16 := by have := hsm0.1; omega
      have HX := Lib.hid (And.intro hxs (And.intro hvs (And.intro hn0 (And.intro hCr (And.intro hsm0.2 hRd0)))))
      clear hxs hvs hn0 hO0 hCr hsm0 hRd0 hvl HM hot1 hO1
      by_cases hk0 : (0 : Int) < n0
      · go_wp2_with fail
        refine (l02Codes (.slice A0 n0 c0) x0 _ HX.out.2.2.2.2.2 (by rw [HX.out.2.2.1]; omega)).mono ?_
        rintro e w2 ⟨vC, rfl, hOC, hb2⟩
        rw [HX.out.2.2.1] at hOC
        obtain ⟨AC, cC, rfl, hncC, hcmC⟩ := owns_slice hOC
        obtain ⟨gc, rfl, hgc⟩ := owns_formT hOC (by omega)
        have hcu2 := hcu1.below hb2
        have ho2 := Only.of_below hb2 [g]
        clear hcu1 hbx0 hbf0 hbx1 hbf1 hax0 haf0 hax1 haf1 hcr0 hcf0
        go_wp2_with fail
        refine (l01Below g n0 _ hcu2 (WalkArith.wf_i64 (by omega))).mono ?_
        rintro e w3 ⟨j, ⟨j0, j1⟩, rfl, hcu3, ho3⟩
        have j2 : j < n0 := by omega
        obtain ⟨j, rfl⟩ := Int.eq_ofNat_of_zero_le j0
        clear j1
        have j3 : j < n0 := by omega
        have hO3 := owns_onlyQ hOC ho3 (by have := hcu2.lt; simp; have := hll; omega)
        obtain ⟨⟨xo, xr, xs', xn⟩, hxj⟩ : ∃ x, x0[j]? = some x := ⟨x0[j]'(by rw [HX.out.2.2.1]; exact j3), List.getElem?_eq_getElem _⟩
        have hcA := fun i (hi : i < 4) => (hO3.cellAt (j * 4 + i) (by omega)).trans (flc_at hxj i hi)
        have hc0 : w3.cell? ⟨gc, j * 4, none⟩ = some (.int .i64 xo) := hcA 0 (by omega)
        have hc1 : w3.cell? ⟨gc, j * 4 + 1, none⟩ = some (.int .i64 xr) := hcA 1 (by omega)
        have hc2 : w3.cell? ⟨gc, j * 4 + 2, none⟩ = some (.int .i64 xs') := hcA 2 (by omega)
        have hc3 : w3.cell? ⟨gc, j * 4 + 3, none⟩ = some (.int .i64 xn) := hcA 3 (by omega)
        have hsx : SmallI ⟨xo, xr, xs', xn⟩ := HX.out.2.2.2.2.1 _ (List.mem_of_getElem? hxj)
        have HJ := Lib.hid (And.intro hxj (And.intro hO3 (ho2.trans ho3)))
        clear hxj hcA hO3 ho2 ho3 hOC hcu2
        go_wp2_with fail
        refine (l02BendInstr g ⟨xo, xr, xs', xn⟩ _ hcu3 hsx).mono ?_
        rintro e w4 ⟨⟨yo, yr, ys, yn⟩, -, rfl, hcu4, ho4⟩
        have hgl4 : g < w.heap.size + 2 := by omega
        have hO4 := owns_onlyQ HJ.out.2.1 ho4 (by simp; omega)
        have hot4 := HJ.out.2.2.trans ho4
        have hjL : j < x0.length := by rw [HX.out.2.2.1]; exact j3
        have hcA := fun i (hi : i < 4) => (hO4.cellAt (j * 4 + i) (by omega)).trans (flc_at HJ.out.1 i hi)
        have hd0 : w4.cell? ⟨gc, j * 4, none⟩ = some (.int .i64 xo) := hcA 0 (by omega)
        have hd1 : w4.cell? ⟨gc, j * 4 + 1, none⟩ = some (.int .i64 xr) := hcA 1 (by omega)
        have hd2 : w4.cell? ⟨gc, j * 4 + 2, none⟩ = some (.int .i64 xs') := hcA 2 (by omega)
        have hd3 : w4.cell? ⟨gc, j * 4 + 3, none⟩ = some (.int .i64 xn) := hcA 3 (by omega)
        have hf0 := hO4.frozenAt (j * 4)
        have hf1 := hO4.frozenAt (j * 4 + 1)
        have hf2 := hO4.frozenAt (j * 4 + 2)
        have hf3 := hO4.frozenAt (j * 4 + 3)
        have hO5 : Hid (((((w4.setCell ⟨gc, j * 4, none⟩ (.int .i64 yo)).setCell ⟨gc, j * 4 + 1, none⟩ (.int .i64 yr)).setCell ⟨gc, j * 4 + 2, none⟩ (.int .i64 ys)).setCell ⟨gc, j * 4 + 3, none⟩ (.int .i64 yn)).ownsRow w1.heap.size 37 4 (.slice (some ⟨gc, 0, none⟩) n0 cC) (x0.set j ⟨yo, yr, ys, yn⟩).length (flc (x0.set j ⟨yo, yr, ys, yn⟩))) := Lib.hid (by
          have := flc_set4 (L := x0) (k := j) ⟨yo, yr, ys, yn⟩ hjL ▸ owns_set4 hO4 (j * 4) (j * 4 + 1) (j * 4 + 2) (j * 4 + 3) (.int .i64 yo) (.int .i64 yr) (.int .i64 ys) (.int .i64 yn)
          rw [List.length_set, HX.out.2.2.1]
          exact this)
        have ho5 := (((hot4.setNew (p := ⟨gc, j * 4, none⟩) hgc (.int .i64 yo)).setNew (p := ⟨gc, j * 4 + 1, none⟩) hgc (.int .i64 yr)).setNew (p := ⟨gc, j * 4 + 2, none⟩) hgc (.int .i64 ys)).setNew (p := ⟨gc, j * 4 + 3, none⟩) hgc (.int .i64 yn)
        generalize hW5 : ((((w4.setCell ⟨gc, j * 4, none⟩ (.int .i64 yo)).setCell ⟨gc, j * 4 + 1, none⟩ (.int .i64 yr)).setCell ⟨gc, j * 4 + 2, none⟩ (.int .i64 ys)).setCell ⟨gc, j * 4 + 3, none⟩ (.int .i64 yn)) = w5 at hO5 ho5
        have HW5 := Lib.hid hW5
        have kB5 := kB1.only ho5 (by simp; omega)
        have kA5 := kA1.only ho5 (by simp; omega)
        have hR5 := owns_onlyQ HO.out.1 ho5 (by simp; omega)
        have hcr5 : w5.cell? ⟨gA, 0, none⟩ = some (.slice A0 n0 c0) := (hR5.cellAt 0 (by omega)).trans (by rw [HX.out.2.1, ← HX.out.2.2.1]; rfl)
        have hcf5 := hR5.frozenAt 0
        obtain ⟨hbx0, hbf0⟩ := kB5.at_ 0 rfl
        obtain ⟨hbx1, hbf1⟩ := kB5.at_ 1 rfl
        have hcu5 : Cur lo w5 g := by
          rw [← hW5]
          exact ((((hcu4).setFar (p := ⟨gc, j * 4, none⟩) (by show g < gc; omega) _).setFar (p := ⟨gc, j * 4 + 1, none⟩) (by show g < gc; omega) _).setFar (p := ⟨gc, j * 4 + 2, none⟩) (by show g < gc; omega) _).setFar (p := ⟨gc, j * 4 + 3, none⟩) (by show g < gc; omega) _
        have HCU := Lib.hid (hcu5.setFar (p := ⟨gA, 0, none⟩) (by show g < gA; omega) (.slice (some ⟨gc, 0, none⟩) n0 cC))
        clear hW5 hcA hO4 hot4 hcu5
        go_upto_region 13 with (fail)
        rw [HW5.out]
        have hst := hR5.stored 0 (.slice (some ⟨gc, 0, none⟩) n0 cC)
        have kB6 := kB5.far (p := ⟨gA, 0, none⟩) (owns_neT hR5 kB5 (by decide) gA rfl) (.slice (some ⟨gc, 0, none⟩) n0 cC)
        have kA6 := kA5.far (p := ⟨gA, 0, none⟩) (owns_neT hR5 kA5 (by decide) gA rfl) (.slice (some ⟨gc, 0, none⟩) n0 cC)
        have hP6 : ProgOwn (w5.setCell ⟨gA, 0, none⟩ (.slice (some ⟨gc, 0, none⟩) n0 cC)) lo1 (.slice (some ⟨gA, 0, none⟩) m cv) (x0.set j ⟨yo, yr, ys, yn⟩ :: rest) := by
          have hO6 := owns_mono hO5.out (base' := lo1) (by omega)
          have hml : (x0.set j (⟨yo, yr, ys, yn⟩ : Ins) :: rest).length = m := by have := HM2.out; rw [HX.out.1] at this; simpa using this
          refine ⟨.slice (some ⟨gc, 0, none⟩) n0 cC :: vr, ?_, hO6.kept hst.2 (own_ne hO6 hR5 (by decide)), HX.out.2.2.2.1.map fun v n cs h => (owns_onlyQ h ho5 (by simp; omega)).kept hst.2 (own_ne (owns_onlyQ h ho5 (by simp; omega)) hR5 (by decide))⟩
          have h1 := hst.1
          rw [HX.out.2.1] at h1
          rw [hml]
          exact h1
        have hB6 : Below B w (w5.setCell ⟨gA, 0, none⟩ (.slice (some ⟨gc, 0, none⟩) n0 cC)) := ((HO.out.2.trans ho5).below (by omega) (by simpa using hBg)).setCell (p := ⟨gA, 0, none⟩) (by show B ≤ gA; omega) _
        obtain ⟨hbz0, hbzf0⟩ := kB6.at_ 0 rfl
        obtain ⟨hbz1, hbzf1⟩ := kB6.at_ 1 rfl
        obtain ⟨haz0, hazf0⟩ := kA6.at_ 0 rfl
        obtain ⟨haz1, hazf1⟩ := kA6.at_ 1 rfl
        have kF6 := (kA6.set_ 0 (.int .i64 c)).set_ 1 (.slice (some ⟨gA, 0, none⟩) m cv)
        obtain ⟨hrz0, -⟩ := kF6.at_ 0 rfl
        obtain ⟨hrz1, -⟩ := kF6.at_ 1 rfl
        have hK6 : ∀ b cs, Bk w b cs 26 → Bk (w5.setCell ⟨gA, 0, none⟩ (.slice (some ⟨gc, 0, none⟩) n0 cC)) b cs 26 := fun b cs k => by
          have k5 := k.only (HO.out.2.trans ho5) (by simpa using hgk.out b cs k)
          exact k5.far (p := ⟨gA, 0, none⟩) (owns_neT hR5 k5 (by decide) gA rfl) _
        have HE := Lib.hid (And.intro hP6 (And.intro hB6 hK6))
        clear hP6 hB6 hK6 hst hR5 ho5 kF hr0 hr1
        go_wp2_with fail
        exact bodyPost_ret (v := .agg #[.int .i64 c, .slice (some ⟨gA, 0, none⟩) m cv]) (by simp [results, Tryz.results25, go_sem, hrz0, hrz1]) rfl
          ⟨_, c, _, lo1, rfl, (HE.out.1.setT kA6 _ |>.setT (kA6.set_ 0 (.int .i64 c)) _), (HE.out.2.1.setCell (p := ⟨w.heap.size + 1, 0, none⟩) (by show B ≤ w.heap.size + 1; omega) _).setCell (p := ⟨w.heap.size + 1, 1, none⟩) (by show B ≤ w.heap.size + 1; omega) _, ⟨hgl, ((HCU.out).setFar (p := ⟨w.heap.size + 1, 0, none⟩) (by show g < w.heap.size + 1; omega) _).setFar (p := ⟨w.heap.size + 1, 1, none⟩) (by show g < w.heap.size + 1; omega) _, SmallL.putHead HX.out.1 HS.out (by rw [HM2.out]; exact hx3)⟩, fun b cs k => ((HE.out.2.2 b cs k).far (p := ⟨w.heap.size + 1, 0, none⟩) (by have := k.lt; show b ≠ w.heap.size + 1; omega) _).far (p := ⟨w.heap.size + 1, 1, none⟩) (by have := k.lt; show b ≠ w.heap.size + 1; omega) _⟩
      · go_wp2_with fail
        exact bodyPost_ret (v := .agg #[.int .i64 c, .slice (some ⟨gA, 0, none⟩) m cv]) (by simp [results, Tryz.results25, go_sem, hr0, hr1]) rfl HEnd.out
    · go_wp2_with fail
      exact bodyPost_ret (v := .agg #[.int .i64 c, .slice A m cv]) (by simp [results, Tryz.results25, go_sem, hr0, hr1]) rfl HEnd.out
/-- what the drawn program is: some readable program -/
def SomeP (B : Nat) (w : World) (e : Ending) (w' : World) : Prop := ∃ (v : Value) (c : Int) (xss : List (List Ins)), e = .returned (.agg #[.int .i64 c, v]) ∧ RdSS w' v xss ∧ Below B w w'
set_option maxHeartbeats 2000000 in
theorem DrawProgOk (A : Option Addr) (n c : Nat) (w : World) (h : Byt w A n) (hnc : n ≤ c) (hc : c ≤ 9223372036854775807) (hn : n ≤ 1048576) :
    Calls Tryz.prog 6 #[.slice A n c] w (SomeP w.heap.size w) := by
  have k0 := Bk.new w #[.int .i64 0, .slice none 0 0] 26
  go_enter Tryz.func6, Tryz.ntmps6
  go_wp2_with fail
  refine (l01New A n c (w.heap.size + 1) _ (h.allocT _) (fun ad ha hn0 => by obtain ⟨ad', e1, e2, _⟩ := h hn0; rw [ha] at e1; injection e1 with e1; subst e1; exact Nat.lt_succ_of_lt e2) hnc hc hn).mono ?_
  rintro e w1 ⟨g, rfl, hc1, hg1, hb1⟩
  have k1 := k0.below hb1 (by simp)
  have hB1 := ((Below.refl w.heap.size w).alloc (Nat.le_refl _) (.cells #[.int .i64 0, .slice none 0 0] 26)).trans (hb1.mono (by simp))
  rw [World.size_alloc] at hg1
  have hg := hc1.lt
  clear k0 hb1
  go_wp2_with fail
  refine (l01Size A n c _ hnc hc hn).mono ?_
  rintro e w2 ⟨k, rfl, hk1, hk2, rfl⟩
  go_wp2_with fail
  refine (l02DrawProg g k _ hc1 (by omega)).mono ?_
  rintro e w3 ⟨v3, c3, xss, lo1, rfl, hc30, hx3, hS, hlo, hP, hc4, ho4⟩
  have k3 := k1.only ho4 (by simp; omega)
  obtain ⟨Av, cv, rfl⟩ : ∃ Av cv, v3 = .slice Av xss.length cv := by
    obtain ⟨vs, h1, h2⟩ := hP
    obtain ⟨A', c', h3, -, -⟩ := owns_slice h1
    exact ⟨A', c', h3⟩
  have HP := Lib.hid (And.intro hP (And.intro hS hx3))
  clear hP hS hx3 k1
  obtain ⟨m, hm⟩ : ∃ m, xss.length = m := ⟨_, rfl⟩
  rw [hm] at HP ⊢
  have HM := Lib.hid hm
  clear hm
  have hB3 := hB1.trans (ho4.below hB1.size (by simp; omega))
  have hz3 := ho4.size
  have hz1 := hB1.size
  have k4 := Bk.new w3 #[.int .i64 c3, .slice Av m cv] 26
  have k5 := k3.alloc (.cells #[.int .i64 c3, .slice Av m cv] 26)
  have hb5 := (Below.refl _ w3).alloc (Nat.le_refl _) (.cells #[.int .i64 c3, .slice Av m cv] 26)
  have hc5 := hc4.below hb5
  have hB5 := hB3.trans (hb5.mono (by omega))
  have HP5 := Lib.hid (HP.out.1.below hb5)
  go_wp2_with fail
  refine (l01Once g 3 _ hc5 (WalkArith.wf_i64 (by omega))).mono ?_
  rintro e w6 ⟨b, rfl, hc6, ho6⟩
  have k46 := k4.only ho6 (by simp; omega)
  have k56 := k5.only ho6 (by simp; omega)
  have hB6 := hB5.trans (ho6.below hB5.size (by simp; omega))
  clear k4 k5 hb5 hc5 hB5 hB3 hc4
  have hP6 := HP5.out.only ho6 (by omega)
  have HM6 := Lib.hid hP6
  clear hP6
  cases b
  · obtain ⟨hb0, hbf0⟩ := k46.at_ 0 rfl
    obtain ⟨hb1, hbf1⟩ := k46.at_ 1 rfl
    obtain ⟨ha0, haf0⟩ := k56.at_ 0 rfl
    obtain ⟨ha1, haf1⟩ := k56.at_ 1 rfl
    have kF := (k56.set_ 0 (.int .i64 c3)).set_ 1 (.slice Av m cv)
    obtain ⟨hr0, -⟩ := kF.at_ 0 rfl
    obtain ⟨hr1, -⟩ := kF.at_ 1 rfl
    clear ho6
    go_wp2_with fail
    exact bodyPost_ret (v := .agg #[.int .i64 c3, .slice Av m cv]) (by simp [results, Tryz.results6, go_sem, hr0, hr1]) rfl
      ⟨_, c3, xss, rfl, (HM6.out.setT k56 _ |>.setT (k56.set_ 0 (.int .i64 c3)) _).rd, (hB6.setCell (p := ⟨w.heap.size, 0, none⟩) (Nat.le_refl _) _).setCell (p := ⟨w.heap.size, 1, none⟩) (Nat.le_refl _) _⟩
  · obtain ⟨hb0, hbf0⟩ := k46.at_ 0 rfl
    obtain ⟨hb1, hbf1⟩ := k46.at_ 1 rfl
    have hgw := hc6.lt
    clear ho6
    go_wp2_with fail
    refine (l02Bend w.heap.size g (.slice Av m cv) c3 xss _ hc6 (HM6.out.mono (lo' := g + 1) (by omega)) HP.out.2.1 (by rw [HM.out]; exact HP.out.2.2) (by omega) (by omega) (by omega)).mono ?_
    rintro e w7 ⟨v7, c7, xss7, lo7, rfl, hP7, hb7, -, hk7⟩
    obtain ⟨A7, cv7, rfl⟩ : ∃ A7 cv7, v7 = .slice A7 xss7.length cv7 := by
      obtain ⟨vs, h1, h2⟩ := hP7
      obtain ⟨A', c', h3, -, -⟩ := owns_slice h1
      exact ⟨A', c', h3⟩
    have k47 := hk7 _ _ k46
    have k57 := hk7 _ _ k56
    have hB7 := hB6.trans hb7
    clear hb0 hbf0 hb1 hbf1 hk7 hb7 k46 k56 hB6 hc6
    obtain ⟨m7, hm7⟩ : ∃ m7, xss7.length = m7 := ⟨_, rfl⟩
    rw [hm7] at hP7 ⊢
    have HP7 := Lib.hid hP7
    clear hm7 hP7
    have k48 := (k47.set_ 0 (.int .i64 c7)).set_ 1 (.slice A7 m7 cv7)
    have k58 := (k57.far (p := ⟨w3.heap.size, 0, none⟩) (by show w.heap.size ≠ w3.heap.size; omega) (.int .i64 c7)).far (p := ⟨w3.heap.size, 1, none⟩) (by show w.heap.size ≠ w3.heap.size; omega) (.slice A7 m7 cv7)
    obtain ⟨hb0, hbf0⟩ := k47.at_ 0 rfl
    obtain ⟨hb1, hbf1⟩ := k47.at_ 1 rfl
    obtain ⟨hd0, hdf0⟩ := k48.at_ 0 rfl
    obtain ⟨hd1, hdf1⟩ := k48.at_ 1 rfl
    obtain ⟨ha0, haf0⟩ := k58.at_ 0 rfl
    obtain ⟨ha1, haf1⟩ := k58.at_ 1 rfl
    have kF := (k58.set_ 0 (.int .i64 c7)).set_ 1 (.slice A7 m7 cv7)
    obtain ⟨hr0, -⟩ := kF.at_ 0 rfl
    obtain ⟨hr1, -⟩ := kF.at_ 1 rfl
    have hw3 : w.heap.size ≤ w3.heap.size := by omega
    go_wp2_with fail
    exact bodyPost_ret (v := .agg #[.int .i64 c7, .slice A7 m7 cv7]) (by simp [results, Tryz.results6, go_sem, hr0, hr1]) rfl
      ⟨_, c7, xss7, rfl, (HP7.out.setT k47 _ |>.setT (k47.set_ 0 (.int .i64 c7)) _ |>.setT k58 _ |>.setT (k58.set_ 0 (.int .i64 c7)) _).rd, (((hB7.setCell (p := ⟨w3.heap.size, 0, none⟩) hw3 _).setCell (p := ⟨w3.heap.size, 1, none⟩) hw3 _).setCell (p := ⟨w.heap.size, 0, none⟩) (Nat.le_refl _) _).setCell (p := ⟨w.heap.size, 1, none⟩) (Nat.le_refl _) _⟩
end Go.Proofs.YtgbgjlmkmlhefaaGreatDoor
