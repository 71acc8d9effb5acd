/- Contracts of chapter 8's functions (package impl), third part: LiveRefs. Condition: the heap's rows can be read. -/
import Derived.Test.YtpenneklpolhgaaDoorH6
namespace Go.Proofs.YtpenneklpolhgaaDoor
set_option maxRecDepth 20000
set_option linter.unusedSimpArgs false
set_option linter.unusedVariables false
open Go.ChangeShapes Go.WideShapes Go.ChangeAt Go.RowKit
set_option linter.unusedVariables false
set_option maxHeartbeats 1600000 in
theorem impl_LiveRefs (gv lv : Value) (h : Hp) (w : World) (r : RdHp w gv lv h) :
    Calls Tryd.prog 29 #[.agg #[gv, lv]] w (RetP2s (liveF h) w) := by
  obtain ⟨A, c, B, d, rfl, rfl, hc1, hd1, hc2, hd2⟩ := r.slices
  obtain ⟨i, hi, hiz0, hiz1, hiz2⟩ := info_parts infoRef
  have hB0 := (Below.refl w.heap.size w).alloc (Nat.le_refl _) (.cells #[.slice A h.g.length c, .slice B h.l.length d] 29)
  have k0 := Bk.new w #[.slice A h.g.length c, .slice B h.l.length d] 29
  have r0 := r.below hB0
  have HS := Lib.hid (impl_HeapOk _ _ h _ r0)
  cases hs : hpOk h
  · have HG : Hid (liveF h = []) := Lib.hid (by simp [liveF, hs])
    rw [hs] at HS
    clear hs
    go_enter Tryd.func29, Tryd.ntmps29
    go_wp2_with fail
    refine HS.out.mono ?_
    rintro e w1 ⟨rfl, hb1⟩
    have HB := Lib.hid (hB0.trans (hb1.mono hB0.size))
    clear k0 hB0 hb1 r r0
    go_wp2_with fail
    go_ret
    exact ⟨_, [], rfl, by rw [HG.out]; exact Own.nil _ _, by simp, HB.out⟩
  · obtain ⟨⟨n1, n2⟩, hl', hto⟩ := hpOk_parts hs
    have hl : h.l.length ≤ h.g.length ∧ h.g.length ≤ h.l.length := by omega
    have HG : Hid (liveF h = liveTo h h.g.length) := Lib.hid (by simp [liveF, hs, hl'])
    rw [hs] at HS
    clear hs hl' hto
    go_enter Tryd.func29, Tryd.ntmps29
    go_wp2_with fail
    refine HS.out.mono ?_
    rintro e w1 ⟨rfl, hb1⟩
    have hB1 := hB0.trans (hb1.mono hB0.size)
    have k1 := k0.below hb1 k0.lt
    obtain ⟨x0, -⟩ := k1.at_ 0 (x := .slice A h.g.length c) rfl
    obtain ⟨x1, -⟩ := k1.at_ 1 (x := .slice B h.l.length d) rfl
    have HR := Lib.hid (heap_objects _ _ h w1 (r0.below hb1) hl.2 (by omega))
    clear k0 hB0 hb1 r r0 HS
    go_wp2_with fail
    refine HR.out.mono ?_
    rintro e w2 ⟨g, rfl, hO2, hb2⟩
    have hB2 := hB1.trans (hb2.mono hB1.size)
    clear k1 x0 x1 hB1 hb2 HR
    go_wp2_with fail
    go_loopw [3, 12] (fun v i wr => ∃ k : Nat, k ≤ h.g.length ∧ i = .int .i64 k ∧ wr.ownsRow w2.heap.size 33 2 v (liveTo h k).length (flc2 (liveTo h k)) ∧ Below w2.heap.size w2 wr) (fun _ i _ => h.g.length - (intOf i).toNat)
    case atStart => exact ⟨0, Nat.zero_le _, rfl, by simpa [liveTo, flc2, fl2, ints] using World.ownsRow_nil w2 w2.heap.size 33 2, Below.refl _ _⟩
    case round =>
      obtain ⟨k, hk, rfl, hOv, hB⟩ := hrel
      by_cases hlt : k < h.g.length
      · obtain ⟨x, y, hxk, hyk, p0, p1, p2⟩ := ob_at (ownsRow_below hO2 hB) hlt (Nat.le_refl _) hl.2
        have hlen := liveTo_len h k
        cases y
        · have HN := Lib.hid (liveTo_no hyk.out)
          have hbA := (Below.refl wr.heap.size wr).alloc (Nat.le_refl _) (.cells #[.int .i64 k, .int .i64 x, .bool false] 92)
          have hO' := ownsRow_below hOv hbA
          go_wp2_with fail
          exact ⟨⟨k + 1, by omega, by go_num, by rw [HN.out]; exact hO', hB.trans (hbA.mono hB.size)⟩, by simp [intOf]; omega⟩
        · have HN := Lib.hid (liveTo_yes hxk.out hyk.out)
          obtain ⟨AO, cO, rfl⟩ := owns_form hOv
          have hBv := hB.alloc hB.size (.cells #[.int .i64 k, .int .i64 x, .bool true] 92)
          have hO' := hOv.alloc (.cells #[.int .i64 k, .int .i64 x, .bool true] 92)
          have ka := Bk.new wr #[.int .i64 k, .int .i64 x, .bool true] 92
          go_upto_region 8 with (fail)
          obtain ⟨wv, hwv⟩ : ∃ wv, wv = wr.alloc (.cells #[.int .i64 k, .int .i64 x, .bool true] 92) := ⟨_, rfl⟩
          rw [← hwv] at hBv hO' ka ⊢
          have HWV := Lib.hid hwv
          obtain ⟨c0, -⟩ := ka.at_ 0 (x := .int .i64 k) rfl
          obtain ⟨c1, -⟩ := ka.at_ 1 (x := .int .i64 x) rfl
          clear hwv p0 p1 p2 hOv hB ka
          go_wp2_with (at_builtin; refine wpList_append_own _ rfl _ _ 55 rfl (w2.heap.size) 33 i (.agg #[.int .i64 0, .int .i64 0]) 2 16 Tryd.underlying55 hi hiz0 hiz1 hiz2 rfl (by decide) _ _ _ rfl (hO'.alloc _) ⟨wv.heap.size, 0, none⟩ 1 1 [.int .i64 k, .int .i64 x] rfl rfl (new_cells _ _ _) (by simp [Value.oneCell']) (by unfold maxLen; omega) (by omega) (by have := hBv.size; simp; omega) ?_)
          intro vo3 w3 ho3 hg3 _
          have hB3 := (hBv.alloc hBv.size _).grown hg3 (by have := hBv.size; simp; omega) (fun k hk => by have := (hO'.lt k hk).1; omega)
          have ho4 := owns_snoc2 (x := ⟨(k : Int), x⟩) ho3
          clear hg3 ho3
          go_wp2_with fail
          exact ⟨⟨k + 1, by omega, by go_num, by rw [HN.out]; exact ho4, hB3⟩, by simp [intOf]; omega⟩
      · obtain rfl : k = h.g.length := by omega
        obtain ⟨bs, h1, h2⟩ := Own.of_owns hOv
        have HE := Lib.hid (And.intro h1 h2)
        clear h1 h2
        go_wp2_with fail
        go_ret
        exact ⟨_, bs, rfl, by rw [HG.out]; exact HE.out.1, fun q hq => Nat.le_trans hB2.size (HE.out.2 q hq), hB2.trans (hB.mono hB2.size)⟩
end Go.Proofs.YtpenneklpolhgaaDoor
