/- Contract of the bend of an instruction (package spec). Conditions: the cursor's bytes can be read; the numbers are small. -/
import Derived.Test.YtgbgjlmkmlhefaaDrawC
namespace Go.Proofs.Ytgbgjlmkmlhefaa
set_option maxRecDepth 20000
set_option linter.unusedSimpArgs false
set_option linter.unusedVariables false
open Go.ChangeShapes Go.WideShapes Go.ChangeAt Go.RowKit
set_option linter.unusedVariables false
def Mid (x : Int) : Prop := -1001 ≤ x ∧ x ≤ 1001
def MidI (i : Ins) : Prop := Mid i.o ∧ Mid i.r ∧ Mid i.s ∧ Mid i.n
theorem SmallI.mid {i : Ins} (h : SmallI i) : MidI i := by
  unfold SmallI at h
  unfold MidI Mid
  omega
set_option maxHeartbeats 3200000 in
theorem l02BendInstr (g : Nat) (i : Ins) (w : World) {lo : Nat} (h : Cur lo w g) (hi : SmallI i) :
    Calls Try.prog 98 #[.pointer (some ⟨g, 0, none⟩), (Value.agg #[.int .i64 i.o, .int .i64 i.r, .int .i64 i.s, .int .i64 i.n])] w fun e w' => ∃ j : Ins, MidI j ∧ e = .returned (Value.agg #[.int .i64 j.o, .int .i64 j.r, .int .i64 j.s, .int .i64 j.n]) ∧ Cur lo w' g ∧ Only [g] w w' := by
  have hg := h.lt
  have HI := Lib.hid hi.mid
  clear hi
  obtain ⟨o, r, s, n⟩ := i
  have kB := (Bk.new w #[.int .i64 o, .int .i64 r, .int .i64 s, .int .i64 n] 74).alloc (.cells #[.int .i64 0, .int .i64 0, .int .i64 0, .int .i64 0] 74)
  have kA := Bk.new (w.alloc (.cells #[.int .i64 o, .int .i64 r, .int .i64 s, .int .i64 n] 74)) #[.int .i64 0, .int .i64 0, .int .i64 0, .int .i64 0] 74
  rw [World.size_alloc] at kA
  have hcu := (h.below ((Below.refl _ _).alloc (Nat.le_refl _) (.cells #[.int .i64 o, .int .i64 r, .int .i64 s, .int .i64 n] 74))).below ((Below.refl _ _).alloc (Nat.le_refl _) (.cells #[.int .i64 0, .int .i64 0, .int .i64 0, .int .i64 0] 74))
  have ho := ((Only.refl [g] w).alloc (.cells #[.int .i64 o, .int .i64 r, .int .i64 s, .int .i64 n] 74)).alloc (.cells #[.int .i64 0, .int .i64 0, .int .i64 0, .int .i64 0] 74)
  go_enter Try.func98, Try.ntmps98
  go_wp2_with fail
  refine (l01Below g 4 _ hcu (WalkArith.wf_i64 (by omega))).mono ?_
  rintro e w1 ⟨x, hx, rfl, hcu1, ho1⟩
  have kA1 := kA.only ho1 (by simp; omega)
  have kB1 := kB.only ho1 (by simp; omega)
  have hot1 := ho.trans ho1
  have hz1 : w.heap.size + 2 ≤ w1.heap.size := by have := ho1.size; simpa using this
  have hx4 : x = 0 ∨ x = 1 ∨ x = 2 ∨ x = 3 := by omega
  clear kA kB hcu ho ho1 hx
  rcases hx4 with rfl | rfl | rfl | rfl
  · go_wp2_with fail
    refine (l01Below g 9 _ hcu1 (WalkArith.wf_i64 (by omega))).mono ?_
    rintro e w2 ⟨y, hy, rfl, hcu2, ho2⟩
    have kA2 := kA1.only ho2 (by simp; omega)
    have kB2 := kB1.only ho2 (by simp; omega)
    have hot2 := hot1.trans ho2
    have hz2 : w.heap.size + 2 ≤ w2.heap.size := Nat.le_trans hz1 ho2.size
    have hy8 : 0 ≤ y ∧ y ≤ 8 := by omega
    clear kA1 kB1 hcu1 hot1 ho2 hy
    have HP : Hid (Rd (w2.alloc (.cells #[.int .i64 (-1), .int .i64 9, .int .i64 y] 3)) (.slice (some ⟨w2.heap.size, 0, none⟩) 3 3) 1 3 (ints [-1, 9, y])) := Lib.hid (rd_lit w2 [-1, 9, y] 3 (by simp))
    have kA3 := kA2.alloc (.cells #[.int .i64 (-1), .int .i64 9, .int .i64 y] 3)
    have kB3 := kB2.alloc (.cells #[.int .i64 (-1), .int .i64 9, .int .i64 y] 3)
    have hcu3 := hcu2.below ((Below.refl _ _).alloc (Nat.le_refl _) (.cells #[.int .i64 (-1), .int .i64 9, .int .i64 y] 3))
    have hot3 := hot2.alloc (.cells #[.int .i64 (-1), .int .i64 9, .int .i64 y] 3)
    clear kA2 kB2 hcu2 hot2
    go_wp2_with fail
    refine (l01PickInt g _ [-1, 9, y] _ hcu3 HP.out (by simp) (by intro A n c he ad ha; injection he with e1; subst e1; injection ha with ha; subst ha; simp; omega)).mono ?_
    rintro e w4 ⟨z, hzz, rfl, hcu4, ho4⟩
    have hzm : Mid z := by unfold Mid; simp at hzz; omega
    have kB4 := kB3.only ho4 (by simp; omega)
    have kA4 := kA3.only ho4 (by simp; omega)
    have kB5 := kB4.set_ 0 (.int .i64 z)
    have kA5 := kA4.far (p := ⟨w.heap.size, 0, none⟩) (by show w.heap.size + 1 ≠ w.heap.size; omega) (.int .i64 z)
    have hcu5 := hcu4.setFar (p := ⟨w.heap.size, 0, none⟩) hg (.int .i64 z)
    have hot5 := (hot3.trans ho4).setNew (p := ⟨w.heap.size, 0, none⟩) (Nat.le_refl _) (.int .i64 z)
    have HZ := Lib.hid hzm
    clear hzz hzm
    obtain ⟨hbx0, hbf0⟩ := kB4.at_ 0 rfl
    obtain ⟨hbx1, hbf1⟩ := kB4.at_ 1 rfl
    obtain ⟨hbx2, hbf2⟩ := kB4.at_ 2 rfl
    obtain ⟨hbx3, hbf3⟩ := kB4.at_ 3 rfl
    obtain ⟨hcx0, hcf0⟩ := kB5.at_ 0 rfl
    obtain ⟨hcx1, hcf1⟩ := kB5.at_ 1 rfl
    obtain ⟨hcx2, hcf2⟩ := kB5.at_ 2 rfl
    obtain ⟨hcx3, hcf3⟩ := kB5.at_ 3 rfl
    obtain ⟨hax0, haf0⟩ := kA5.at_ 0 rfl
    obtain ⟨hax1, haf1⟩ := kA5.at_ 1 rfl
    obtain ⟨hax2, haf2⟩ := kA5.at_ 2 rfl
    obtain ⟨hax3, haf3⟩ := kA5.at_ 3 rfl
    go_wp2_with fail
    have kF := (((kA5.set_ 0 (.int .i64 z)).set_ 1 (.int .i64 r)).set_ 2 (.int .i64 s)).set_ 3 (.int .i64 n)
    obtain ⟨hr0, -⟩ := kF.at_ 0 rfl
    obtain ⟨hr1, -⟩ := kF.at_ 1 rfl
    obtain ⟨hr2, -⟩ := kF.at_ 2 rfl
    obtain ⟨hr3, -⟩ := kF.at_ 3 rfl
    have hg1 : g < w.heap.size + 1 := Nat.lt_succ_of_lt hg
    exact bodyPost_ret (v := .agg #[.int .i64 z, .int .i64 r, .int .i64 s, .int .i64 n]) (by simp [results, Try.results98, go_sem, hr0, hr1, hr2, hr3]) rfl ⟨⟨z, r, s, n⟩, ⟨HZ.out, HI.out.2.1, HI.out.2.2.1, HI.out.2.2.2⟩, rfl,
      (((hcu5.setFar (p := ⟨w.heap.size + 1, 0, none⟩) hg1 _).setFar (p := ⟨w.heap.size + 1, 1, none⟩) hg1 _).setFar (p := ⟨w.heap.size + 1, 2, none⟩) hg1 _).setFar (p := ⟨w.heap.size + 1, 3, none⟩) hg1 _,
      (((hot5.setNew (p := ⟨w.heap.size + 1, 0, none⟩) (Nat.le_succ _) _).setNew (p := ⟨w.heap.size + 1, 1, none⟩) (Nat.le_succ _) _).setNew (p := ⟨w.heap.size + 1, 2, none⟩) (Nat.le_succ _) _).setNew (p := ⟨w.heap.size + 1, 3, none⟩) (Nat.le_succ _) _⟩
  · have HP : Hid (Rd (w1.alloc (.cells #[.int .i64 (-1), .int .i64 3, .int .i64 4] 3)) (.slice (some ⟨w1.heap.size, 0, none⟩) 3 3) 1 3 (ints [-1, 3, 4])) := Lib.hid (rd_lit w1 [-1, 3, 4] 3 (by simp))
    have kA3 := kA1.alloc (.cells #[.int .i64 (-1), .int .i64 3, .int .i64 4] 3)
    have kB3 := kB1.alloc (.cells #[.int .i64 (-1), .int .i64 3, .int .i64 4] 3)
    have hcu3 := hcu1.below ((Below.refl _ _).alloc (Nat.le_refl _) (.cells #[.int .i64 (-1), .int .i64 3, .int .i64 4] 3))
    have hot3 := hot1.alloc (.cells #[.int .i64 (-1), .int .i64 3, .int .i64 4] 3)
    clear kA1 kB1 hcu1 hot1
    go_wp2_with fail
    refine (l01PickInt g _ [-1, 3, 4] _ hcu3 HP.out (by simp) (by intro A n c he ad ha; injection he with e1; subst e1; injection ha with ha; subst ha; simp; omega)).mono ?_
    rintro e w4 ⟨z, hzz, rfl, hcu4, ho4⟩
    have hzm : Mid z := by unfold Mid; simp at hzz; omega
    have kB4 := kB3.only ho4 (by simp; omega)
    have kA4 := kA3.only ho4 (by simp; omega)
    have kB5 := kB4.set_ 1 (.int .i64 z)
    have kA5 := kA4.far (p := ⟨w.heap.size, 1, none⟩) (by show w.heap.size + 1 ≠ w.heap.size; omega) (.int .i64 z)
    have hcu5 := hcu4.setFar (p := ⟨w.heap.size, 1, none⟩) hg (.int .i64 z)
    have hot5 := (hot3.trans ho4).setNew (p := ⟨w.heap.size, 1, none⟩) (Nat.le_refl _) (.int .i64 z)
    have HZ := Lib.hid hzm
    clear hzz hzm
    obtain ⟨hbx0, hbf0⟩ := kB4.at_ 0 rfl
    obtain ⟨hbx1, hbf1⟩ := kB4.at_ 1 rfl
    obtain ⟨hbx2, hbf2⟩ := kB4.at_ 2 rfl
    obtain ⟨hbx3, hbf3⟩ := kB4.at_ 3 rfl
    obtain ⟨hcx0, hcf0⟩ := kB5.at_ 0 rfl
    obtain ⟨hcx1, hcf1⟩ := kB5.at_ 1 rfl
    obtain ⟨hcx2, hcf2⟩ := kB5.at_ 2 rfl
    obtain ⟨hcx3, hcf3⟩ := kB5.at_ 3 rfl
    obtain ⟨hax0, haf0⟩ := kA5.at_ 0 rfl
    obtain ⟨hax1, haf1⟩ := kA5.at_ 1 rfl
    obtain ⟨hax2, haf2⟩ := kA5.at_ 2 rfl
    obtain ⟨hax3, haf3⟩ := kA5.at_ 3 rfl
    go_wp2_with fail
    have kF := (((kA5.set_ 0 (.int .i64 o)).set_ 1 (.int .i64 z)).set_ 2 (.int .i64 s)).set_ 3 (.int .i64 n)
    obtain ⟨hr0, -⟩ := kF.at_ 0 rfl
    obtain ⟨hr1, -⟩ := kF.at_ 1 rfl
    obtain ⟨hr2, -⟩ := kF.at_ 2 rfl
    obtain ⟨hr3, -⟩ := kF.at_ 3 rfl
    have hg1 : g < w.heap.size + 1 := Nat.lt_succ_of_lt hg
    exact bodyPost_ret (v := .agg #[.int .i64 o, .int .i64 z, .int .i64 s, .int .i64 n]) (by simp [results, Try.results98, go_sem, hr0, hr1, hr2, hr3]) rfl ⟨⟨o, z, s, n⟩, ⟨HI.out.1, HZ.out, HI.out.2.2.1, HI.out.2.2.2⟩, rfl,
      (((hcu5.setFar (p := ⟨w.heap.size + 1, 0, none⟩) hg1 _).setFar (p := ⟨w.heap.size + 1, 1, none⟩) hg1 _).setFar (p := ⟨w.heap.size + 1, 2, none⟩) hg1 _).setFar (p := ⟨w.heap.size + 1, 3, none⟩) hg1 _,
      (((hot5.setNew (p := ⟨w.heap.size + 1, 0, none⟩) (Nat.le_succ _) _).setNew (p := ⟨w.heap.size + 1, 1, none⟩) (Nat.le_succ _) _).setNew (p := ⟨w.heap.size + 1, 2, none⟩) (Nat.le_succ _) _).setNew (p := ⟨w.heap.size + 1, 3, none⟩) (Nat.le_succ _) _⟩
  · have HP : Hid (Rd (w1.alloc (.cells #[.int .i64 (-1), .int .i64 3, .int .i64 4, .int .i64 1] 3)) (.slice (some ⟨w1.heap.size, 0, none⟩) 4 4) 1 4 (ints [-1, 3, 4, 1])) := Lib.hid (rd_lit w1 [-1, 3, 4, 1] 3 (by simp))
    have kA3 := kA1.alloc (.cells #[.int .i64 (-1), .int .i64 3, .int .i64 4, .int .i64 1] 3)
    have kB3 := kB1.alloc (.cells #[.int .i64 (-1), .int .i64 3, .int .i64 4, .int .i64 1] 3)
    have hcu3 := hcu1.below ((Below.refl _ _).alloc (Nat.le_refl _) (.cells #[.int .i64 (-1), .int .i64 3, .int .i64 4, .int .i64 1] 3))
    have hot3 := hot1.alloc (.cells #[.int .i64 (-1), .int .i64 3, .int .i64 4, .int .i64 1] 3)
    clear kA1 kB1 hcu1 hot1
    go_wp2_with fail
    refine (l01PickInt g _ [-1, 3, 4, 1] _ hcu3 HP.out (by simp) (by intro A n c he ad ha; injection he with e1; subst e1; injection ha with ha; subst ha; simp; omega)).mono ?_
    rintro e w4 ⟨z, hzz, rfl, hcu4, ho4⟩
    have hzm : Mid z := by unfold Mid; simp at hzz; omega
    have kB4 := kB3.only ho4 (by simp; omega)
    have kA4 := kA3.only ho4 (by simp; omega)
    have kB5 := kB4.set_ 2 (.int .i64 z)
    have kA5 := kA4.far (p := ⟨w.heap.size, 2, none⟩) (by show w.heap.size + 1 ≠ w.heap.size; omega) (.int .i64 z)
    have hcu5 := hcu4.setFar (p := ⟨w.heap.size, 2, none⟩) hg (.int .i64 z)
    have hot5 := (hot3.trans ho4).setNew (p := ⟨w.heap.size, 2, none⟩) (Nat.le_refl _) (.int .i64 z)
    have HZ := Lib.hid hzm
    clear hzz hzm
    obtain ⟨hbx0, hbf0⟩ := kB4.at_ 0 rfl
    obtain ⟨hbx1, hbf1⟩ := kB4.at_ 1 rfl
    obtain ⟨hbx2, hbf2⟩ := kB4.at_ 2 rfl
    obtain ⟨hbx3, hbf3⟩ := kB4.at_ 3 rfl
    obtain ⟨hcx0, hcf0⟩ := kB5.at_ 0 rfl
    obtain ⟨hcx1, hcf1⟩ := kB5.at_ 1 rfl
    obtain ⟨hcx2, hcf2⟩ := kB5.at_ 2 rfl
    obtain ⟨hcx3, hcf3⟩ := kB5.at_ 3 rfl
    obtain ⟨hax0, haf0⟩ := kA5.at_ 0 rfl
    obtain ⟨hax1, haf1⟩ := kA5.at_ 1 rfl
    obtain ⟨hax2, haf2⟩ := kA5.at_ 2 rfl
    obtain ⟨hax3, haf3⟩ := kA5.at_ 3 rfl
    go_wp2_with fail
    have kF := (((kA5.set_ 0 (.int .i64 o)).set_ 1 (.int .i64 r)).set_ 2 (.int .i64 z)).set_ 3 (.int .i64 n)
    obtain ⟨hr0, -⟩ := kF.at_ 0 rfl
    obtain ⟨hr1, -⟩ := kF.at_ 1 rfl
    obtain ⟨hr2, -⟩ := kF.at_ 2 rfl
    obtain ⟨hr3, -⟩ := kF.at_ 3 rfl
    have hg1 : g < w.heap.size + 1 := Nat.lt_succ_of_lt hg
    exact bodyPost_ret (v := .agg #[.int .i64 o, .int .i64 r, .int .i64 z, .int .i64 n]) (by simp [results, Try.results98, go_sem, hr0, hr1, hr2, hr3]) rfl ⟨⟨o, r, z, n⟩, ⟨HI.out.1, HI.out.2.1, HZ.out, HI.out.2.2.2⟩, rfl,
      (((hcu5.setFar (p := ⟨w.heap.size + 1, 0, none⟩) hg1 _).setFar (p := ⟨w.heap.size + 1, 1, none⟩) hg1 _).setFar (p := ⟨w.heap.size + 1, 2, none⟩) hg1 _).setFar (p := ⟨w.heap.size + 1, 3, none⟩) hg1 _,
      (((hot5.setNew (p := ⟨w.heap.size + 1, 0, none⟩) (Nat.le_succ _) _).setNew (p := ⟨w.heap.size + 1, 1, none⟩) (Nat.le_succ _) _).setNew (p := ⟨w.heap.size + 1, 2, none⟩) (Nat.le_succ _) _).setNew (p := ⟨w.heap.size + 1, 3, none⟩) (Nat.le_succ _) _⟩
  · have HP : Hid (Rd (w1.alloc (.cells #[.int .i64 (-1), .int .i64 15, .int .i64 16, .int .i64 17, .int .i64 1000, .int .i64 1001, .int .i64 (-1000), .int .i64 (-1001)] 3)) (.slice (some ⟨w1.heap.size, 0, none⟩) 8 8) 1 8 (ints [-1, 15, 16, 17, 1000, 1001, -1000, -1001])) := Lib.hid (rd_lit w1 [-1, 15, 16, 17, 1000, 1001, -1000, -1001] 3 (by simp))
    have kA3 := kA1.alloc (.cells #[.int .i64 (-1), .int .i64 15, .int .i64 16, .int .i64 17, .int .i64 1000, .int .i64 1001, .int .i64 (-1000), .int .i64 (-1001)] 3)
    have kB3 := kB1.alloc (.cells #[.int .i64 (-1), .int .i64 15, .int .i64 16, .int .i64 17, .int .i64 1000, .int .i64 1001, .int .i64 (-1000), .int .i64 (-1001)] 3)
    have hcu3 := hcu1.below ((Below.refl _ _).alloc (Nat.le_refl _) (.cells #[.int .i64 (-1), .int .i64 15, .int .i64 16, .int .i64 17, .int .i64 1000, .int .i64 1001, .int .i64 (-1000), .int .i64 (-1001)] 3))
    have hot3 := hot1.alloc (.cells #[.int .i64 (-1), .int .i64 15, .int .i64 16, .int .i64 17, .int .i64 1000, .int .i64 1001, .int .i64 (-1000), .int .i64 (-1001)] 3)
    clear kA1 kB1 hcu1 hot1
    go_wp2_with fail
    refine (l01PickInt g _ [-1, 15, 16, 17, 1000, 1001, -1000, -1001] _ hcu3 HP.out (by simp) (by intro A n c he ad ha; injection he with e1; subst e1; injection ha with ha; subst ha; simp; omega)).mono ?_
    rintro e w4 ⟨z, hzz, rfl, hcu4, ho4⟩
    have hzm : Mid z := by unfold Mid; simp at hzz; omega
    have kB4 := kB3.only ho4 (by simp; omega)
    have kA4 := kA3.only ho4 (by simp; omega)
    have kB5 := kB4.set_ 3 (.int .i64 z)
    have kA5 := kA4.far (p := ⟨w.heap.size, 3, none⟩) (by show w.heap.size + 1 ≠ w.heap.size; omega) (.int .i64 z)
    have hcu5 := hcu4.setFar (p := ⟨w.heap.size, 3, none⟩) hg (.int .i64 z)
    have hot5 := (hot3.trans ho4).setNew (p := ⟨w.heap.size, 3, none⟩) (Nat.le_refl _) (.int .i64 z)
    have HZ := Lib.hid hzm
    clear hzz hzm
    obtain ⟨hbx0, hbf0⟩ := kB4.at_ 0 rfl
    obtain ⟨hbx1, hbf1⟩ := kB4.at_ 1 rfl
    obtain ⟨hbx2, hbf2⟩ := kB4.at_ 2 rfl
    obtain ⟨hbx3, hbf3⟩ := kB4.at_ 3 rfl
    obtain ⟨hcx0, hcf0⟩ := kB5.at_ 0 rfl
    obtain ⟨hcx1, hcf1⟩ := kB5.at_ 1 rfl
    obtain ⟨hcx2, hcf2⟩ := kB5.at_ 2 rfl
    obtain ⟨hcx3, hcf3⟩ := kB5.at_ 3 rfl
    obtain ⟨hax0, haf0⟩ := kA5.at_ 0 rfl
    obtain ⟨hax1, haf1⟩ := kA5.at_ 1 rfl
    obtain ⟨hax2, haf2⟩ := kA5.at_ 2 rfl
    obtain ⟨hax3, haf3⟩ := kA5.at_ 3 rfl
    go_wp2_with fail
    have kF := (((kA5.set_ 0 (.int .i64 o)).set_ 1 (.int .i64 r)).set_ 2 (.int .i64 s)).set_ 3 (.int .i64 z)
    obtain ⟨hr0, -⟩ := kF.at_ 0 rfl
    obtain ⟨hr1, -⟩ := kF.at_ 1 rfl
    obtain ⟨hr2, -⟩ := kF.at_ 2 rfl
    obtain ⟨hr3, -⟩ := kF.at_ 3 rfl
    have hg1 : g < w.heap.size + 1 := Nat.lt_succ_of_lt hg
    exact bodyPost_ret (v := .agg #[.int .i64 o, .int .i64 r, .int .i64 s, .int .i64 z]) (by simp [results, Try.results98, go_sem, hr0, hr1, hr2, hr3]) rfl ⟨⟨o, r, s, z⟩, ⟨HI.out.1, HI.out.2.1, HI.out.2.2.1, HZ.out⟩, rfl,
      (((hcu5.setFar (p := ⟨w.heap.size + 1, 0, none⟩) hg1 _).setFar (p := ⟨w.heap.size + 1, 1, none⟩) hg1 _).setFar (p := ⟨w.heap.size + 1, 2, none⟩) hg1 _).setFar (p := ⟨w.heap.size + 1, 3, none⟩) hg1 _,
      (((hot5.setNew (p := ⟨w.heap.size + 1, 0, none⟩) (Nat.le_succ _) _).setNew (p := ⟨w.heap.size + 1, 1, none⟩) (Nat.le_succ _) _).setNew (p := ⟨w.heap.size + 1, 2, none⟩) (Nat.le_succ _) _).setNew (p := ⟨w.heap.size + 1, 3, none⟩) (Nat.le_succ _) _⟩
end Go.Proofs.Ytgbgjlmkmlhefaa
