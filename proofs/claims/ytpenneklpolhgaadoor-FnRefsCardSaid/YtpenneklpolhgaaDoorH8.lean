/- Contracts of chapter 8's functions (package impl), fourth part: the test of a reference, GoodRef. Condition: the heap's rows can be read. -/
import Derived.Test.YtpenneklpolhgaaDoorH6
import Derived.Test.YtpenneklpolhgaaDoorH1
import Derived.Test.YtpenneklpolhgaaDoorI1
import Derived.Test.YtpenneklpolhgaaDoorSteps
namespace Go.Proofs.YtpenneklpolhgaaDoor
set_option maxRecDepth 20000
set_option linter.unusedSimpArgs false
set_option linter.unusedVariables false
open Go.ChangeShapes Go.WideShapes Go.ChangeAt Go.RowKit
set_option linter.unusedVariables false
/-- what the test of a reference answers: no error, or a refusal with its code -/
def refE (h : Hp) (r : P2) : Value := if freeC h r = 0 then .nilIface else .iface 69 (.int .i64 (freeC h r))
theorem refE_out {h : Hp} {r : P2} (hi : inH h r.a = false) : refE h r = .iface 69 (.int .i64 1) := by
  have : freeC h r = 1 := by unfold freeC; rw [hi]; rfl
  unfold refE
  rw [this]
  rfl
theorem refE_stale {h : Hp} {r : P2} (hi : inH h r.a = true) (hg : goodB h r = false) : refE h r = .iface 69 (.int .i64 2) := by
  have : freeC h r = 2 := by unfold freeC; rw [hi, hg]; rfl
  unfold refE
  rw [this]
  rfl
theorem refE_good {h : Hp} {r : P2} (hg : goodB h r = true) : refE h r = .nilIface := by
  have hi : inH h r.a = true := by unfold goodB at hg; rw [Bool.and_eq_true] at hg; exact hg.1
  have : freeC h r = 0 := by unfold freeC; rw [hi, hg]; rfl
  unfold refE
  rw [this]
  rfl
set_option maxHeartbeats 3200000 in
theorem heap_check (gv lv : Value) (h : Hp) (r : P2) (w : World) (rd : RdHp w gv lv h) :
    Calls Tryd.prog 41 #[.agg #[gv, lv], .agg #[.int .i64 r.a, .int .i64 r.b]] w fun e w' => e = .returned (refE h r) ∧ Below w.heap.size w w' := by
  obtain ⟨A, c, B, d, rfl, rfl, hc1, hd1, hc2, hd2⟩ := rd.slices
  obtain ⟨ra, rb⟩ := r
  have hB0 := ((Below.refl w.heap.size w).alloc (Nat.le_refl _) (.cells #[.slice A h.g.length c, .slice B h.l.length d] 29)).alloc (by simp) (.cells #[.int .i64 ra, .int .i64 rb] 33)
  have k1 := (Bk.new w #[.slice A h.g.length c, .slice B h.l.length d] 29).alloc (.cells #[.int .i64 ra, .int .i64 rb] 33)
  have k2 := Bk.new (w.alloc (.cells #[.slice A h.g.length c, .slice B h.l.length d] 29)) #[.int .i64 ra, .int .i64 rb] 33
  rw [World.size_alloc] at k2
  have r0 := rd.below hB0
  have HS := Lib.hid (impl_HeapOk _ _ h _ r0)
  cases hs : hpOk h
  · have HG := Lib.hid (refE_out (h := h) (r := ⟨ra, rb⟩) (by simp [inH, hs]))
    rw [hs] at HS
    clear hs
    go_enter Tryd.func41, Tryd.ntmps41
    go_wp2_with fail
    refine HS.out.mono ?_
    rintro e w1 ⟨rfl, hb1⟩
    have HB := Lib.hid (hB0.trans (hb1.mono hB0.size))
    clear k1 k2 hB0 hb1 rd r0
    go_wp2_with fail
    go_ret
    exact ⟨by rw [HG.out]; rfl, HB.out⟩
  · rw [hs] at HS
    obtain ⟨⟨n1, n2⟩, hl', hto⟩ := hpOk_parts hs
    have hl : h.l.length ≤ h.g.length ∧ h.g.length ≤ h.l.length := by omega
    have HK := Lib.hid hs
    clear hl' hto
    cases hin : inB ra 0 ((h.g.length : Int) - 1)
    · have HG := Lib.hid (refE_out (h := h) (r := ⟨ra, rb⟩) (by simp [inH, hin]))
      have HI := Lib.hid (fun W => by have hq := impl_indexOk ra (h.g.length : Int) W; rw [hin] at hq; exact hq)
      clear hs hin
      go_enter Tryd.func41, Tryd.ntmps41
      go_wp2_with fail
      refine HS.out.mono ?_
      rintro e w1 ⟨rfl, hb1⟩
      have K1 := k1.below hb1 k1.lt
      have K2 := k2.below hb1 k2.lt
      obtain ⟨x0, -⟩ := K1.at_ 0 (x := .slice A h.g.length c) rfl
      obtain ⟨x1, -⟩ := K2.at_ 0 (x := .int .i64 ra) rfl
      have HB := Lib.hid (hB0.trans (hb1.mono hB0.size))
      clear k1 k2 hB0 hb1 rd r0 K1 K2
      go_wp2_with (go_at_call 67; refine (HI.out _).mono ?_; rintro e w' ⟨rfl, rfl⟩)
      go_ret
      exact ⟨by rw [HG.out]; rfl, HB.out⟩
    · have hib := inB_true hin
      obtain ⟨j, hj⟩ : ∃ j : Nat, ra = j := ⟨ra.toNat, by omega⟩
      subst hj
      have hjl : j < h.g.length := by omega
      have HI := Lib.hid (fun W => by have hq := impl_indexOk (j : Int) (h.g.length : Int) W; rw [hin] at hq; exact hq)
      clear hs hin hib
      go_enter Tryd.func41, Tryd.ntmps41
      go_wp2_with fail
      refine HS.out.mono ?_
      rintro e w1 ⟨rfl, hb1⟩
      have K1 := k1.below hb1 k1.lt
      have K2 := k2.below hb1 k2.lt
      obtain ⟨x0, -⟩ := K1.at_ 0 (x := .slice A h.g.length c) rfl
      obtain ⟨x2, -⟩ := K1.at_ 1 (x := .slice B h.l.length d) rfl
      obtain ⟨x1, -⟩ := K2.at_ 0 (x := .int .i64 j) rfl
      have hB1 := hB0.trans (hb1.mono hB0.size)
      have r1 := r0.below hb1
      have HS1 : Hid (∀ W : World, Below w1.heap.size w1 W → W.cell? ⟨w.heap.size, 0, none⟩ = some (.slice A h.g.length c) ∧ W.cell? ⟨w.heap.size, 1, none⟩ = some (.slice B h.l.length d) ∧ W.cell? ⟨w.heap.size + 1, 0, none⟩ = some (.int .i64 j)) :=
        Lib.hid fun W hW => ⟨((K1.below hW K1.lt).at_ 0 rfl).1, ((K1.below hW K1.lt).at_ 1 rfl).1, ((K2.below hW K2.lt).at_ 0 rfl).1⟩
      have l1 := K1.lt
      have l2 := K2.lt
      have HR := Lib.hid r1
      have HB1 := Lib.hid hB1
      have HK2 := Lib.hid K2
      have KN : Hid (Bk ((w1.alloc (.cells #[.int .i64 0, .int .i64 0, .bool false] 92)).drew) w1.heap.size #[.int .i64 0, .int .i64 0, .bool false] 92) := Lib.hid (Bk.new w1 #[.int .i64 0, .int .i64 0, .bool false] 92)
      have HN : Hid (Below w1.heap.size w1 (w1.alloc (.cells #[.int .i64 0, .int .i64 0, .bool false] 92)).drew) := Lib.hid ((Below.refl _ w1).alloc (Nat.le_refl _) _).drew
      clear k1 k2 hB0 hb1 rd r0 r1 K1 K2 hB1
      go_upto_region 3 with (go_at_call 67; refine (HI.out _).mono ?_; rintro e w' ⟨rfl, rfl⟩)
      go_cut [5] (fun p wz => ∃ (g : Nat) (x : Int) (y : Bool), p = .pointer (some ⟨g, 0, none⟩) ∧ Hid (h.g[j]? = some x) ∧ Hid (h.l[j]? = some y) ∧ Bk wz g #[.int .i64 j, .int .i64 x, .bool y] 92 ∧ Below w1.heap.size w1 wz)
      case first =>
        go_region_law (first
            | (refine step_call rfl 57 Tryd.func57 (by kernel_rfl) (by kernel_rfl) _ _ rfl #[.agg #[.slice A h.g.length c, .slice B h.l.length d]] (by simp [Act.eval, Act.put]) (heap_objects _ _ h w1.drew (HR.out.below (Below.refl _ _).drew) hl.2 (by omega)) ?_; rintro e w2 ⟨g, rfl, hO2, hb2⟩; refine ⟨_, rfl, ?_⟩; have t2 : Below w1.heap.size w1 w2 := (Below.refl _ w1).drew.trans hb2; obtain ⟨x, y, hxk, hyk, p0, p1, p2⟩ := ob_at hO2 hjl (Nat.le_refl _) hl.2; have lg : g < w2.heap.size := block_lt_of_cell p0; obtain ⟨x3, -⟩ := (HK2.out.below t2 l2).at_ 0 (x := .int .i64 j) rfl; have l3 : w.heap.size + 1 < w2.heap.size := Nat.lt_of_lt_of_le l2 t2.size)
            | (refine step_call rfl 57 Tryd.func57 (by kernel_rfl) (by kernel_rfl) _ _ rfl #[.agg #[.slice A h.g.length c, .slice B h.l.length d]] (by simp [Act.eval, Act.put]) (heap_objects _ _ h (w1.alloc (.cells #[.int .i64 0, .int .i64 0, .bool false] 92)).drew (HR.out.below HN.out) hl.2 (by omega)) ?_; rintro e w2 ⟨g, rfl, hO2, hb2⟩; refine ⟨_, rfl, ?_⟩; have t2 : Below w1.heap.size w1 w2 := HN.out.trans (hb2.mono HN.out.size); obtain ⟨x, y, hxk, hyk, p0, p1, p2⟩ := ob_at hO2 hjl (Nat.le_refl _) hl.2; have lg : g < w2.heap.size := block_lt_of_cell p0; obtain ⟨x3, -⟩ := (HK2.out.below t2 l2).at_ 0 (x := .int .i64 j) rfl; have l3 : w.heap.size + 1 < w2.heap.size := Nat.lt_of_lt_of_le l2 t2.size; have qz := KN.out.below hb2 KN.out.lt; obtain ⟨z0, f0⟩ := qz.at_ 0 (x := .int .i64 0) rfl; obtain ⟨z1, f1⟩ := qz.at_ 1 (x := .int .i64 0) rfl; obtain ⟨z2, f2⟩ := qz.at_ 2 (x := .bool false) rfl))
        all_goals go_wp2_with fail
        all_goals go_meet
        all_goals first
          | exact ⟨w2.heap.size, x, y, rfl, hxk, hyk, Bk.new _ _ _, t2.alloc t2.size _⟩
          | exact ⟨w1.heap.size, x, y, rfl, hxk, hyk, by simpa using ((qz.set_ 0 (.int .i64 j)).set_ 1 (.int .i64 x)).set_ 2 (.bool y), ((t2.setCell (Nat.le_refl _) _).setCell (Nat.le_refl _) _).setCell (Nat.le_refl _) _⟩
      case rest =>
        obtain ⟨g, x, y, rfl, hxk, hyk, hk5, hbz⟩ := hcut
        rename World => wz
        have hB3 := HB1.out.trans (hbz.mono HB1.out.size)
        obtain ⟨c0, -⟩ := hk5.at_ 0 (x := .int .i64 j) rfl
        obtain ⟨c1, -⟩ := hk5.at_ 1 (x := .int .i64 x) rfl
        obtain ⟨c2, -⟩ := hk5.at_ 2 (x := .bool y) rfl
        have K2 := HK2.out.below hbz l2
        obtain ⟨d0, -⟩ := K2.at_ 0 (x := .int .i64 j) rfl
        obtain ⟨d1, -⟩ := K2.at_ 1 (x := .int .i64 rb) rfl
        have HGB := Lib.hid (goodB_at (b := rb) HK.out rfl hjl hxk.out hyk.out)
        clear hk5 hbz K2 HS1 HR HB1 KN HN x0 x1 x2
        cases y
        · have HG := Lib.hid (refE_stale (h := h) (r := ⟨j, rb⟩) HGB.out.2 (by rw [HGB.out.1]; rfl))
          go_wp2_with fail
          go_ret
          exact ⟨by rw [HG.out]; rfl, hB3⟩
        · by_cases hx : x = rb
          · have HG := Lib.hid (refE_good (h := h) (r := ⟨j, rb⟩) (by rw [HGB.out.1, hx]; simp))
            subst hx
            go_wp2_with fail
            go_ret
            exact ⟨by rw [HG.out]; rfl, hB3⟩
          · have HG := Lib.hid (refE_stale (h := h) (r := ⟨j, rb⟩) HGB.out.2 (by rw [HGB.out.1]; simp [hx]))
            have hx' : (x == rb) = false := by simp [hx]
            go_wp2_with fail
            go_ret
            exact ⟨by rw [HG.out]; rfl, hB3⟩
end Go.Proofs.YtpenneklpolhgaaDoor
