/- Contracts of chapter 8's functions (package impl), second part: HeapOk, Reuses, LiveRefs. Condition: the heap's rows can be read. -/
import Derived.Test.YtpenneklpolhgaaDoorH5
import Derived.Test.YtpenneklpolhgaaDoorH3
namespace Go.Proofs.YtpenneklpolhgaaDoor
set_option maxRecDepth 20000
set_option linter.unusedSimpArgs false
set_option linter.unusedVariables false
open Go.ChangeShapes Go.WideShapes Go.ChangeAt Go.RowKit
set_option linter.unusedVariables false
theorem obC_eq {h : Hp} {k : Nat} {x : Int} {y : Bool} (hx : h.g[k]? = some x) (hy : h.l[k]? = some y) : obC h k = [.int .i64 k, .int .i64 x, .bool y] := by
  simp [obC, List.getD_eq_getElem?_getD, hx, hy]
/-- the three cells of an object in the list -/
theorem ob_at {w : World} {base g n k cap : Nat} {e : TypeId} {h : Hp} (hO : w.ownsRow base e 3 (.slice (some ⟨g, 0, none⟩) n cap) n (obCs h n)) (hk : k < n) (hg : n ≤ h.g.length) (hl : n ≤ h.l.length) :
    ∃ x y, Hid (h.g[k]? = some x) ∧ Hid (h.l[k]? = some y) ∧ w.cell? ⟨g, k * 3, none⟩ = some (.int .i64 k) ∧ w.cell? ⟨g, k * 3 + 1, none⟩ = some (.int .i64 x) ∧ w.cell? ⟨g, k * 3 + 2, none⟩ = some (.bool y) := by
  have hx : h.g[k]? = some (h.g[k]'(by omega)) := List.getElem?_eq_getElem _
  have hy : h.l[k]? = some (h.l[k]'(by omega)) := List.getElem?_eq_getElem _
  have hA := fun j (hj : j < 3) => (hO.cellAt (k * 3 + j) (by omega)).trans ((obCs_at h hk j hj).trans (by rw [obC_eq hx hy]))
  exact ⟨_, _, Lib.hid hx, Lib.hid hy, hA 0 (by omega), hA 1 (by omega), hA 2 (by omega)⟩
theorem hpOk_szB (h : Hp) : hpOk h = (szB h && hpTo h h.g.length) := by simp [hpOk, szB, Bool.and_assoc]
theorem szB_parts {h : Hp} (hs : szB h = true) : (1 ≤ h.g.length ∧ h.g.length ≤ 24) ∧ h.l.length = h.g.length := by
  simp only [szB, Bool.and_eq_true, decide_eq_true_eq] at hs
  have := inB_true hs.1
  exact ⟨by omega, hs.2⟩
set_option maxHeartbeats 1600000 in
theorem impl_HeapOk (gv lv : Value) (h : Hp) (w : World) (r : RdHp w gv lv h) :
    Calls Tryd.prog 56 #[.agg #[gv, lv]] w fun e w' => e = .returned (.bool (hpOk h)) ∧ Below w.heap.size w w' := by
  obtain ⟨A, c, B, d, rfl, rfl, hc1, hd1, hc2, hd2⟩ := r.slices
  have hB0 := (Below.refl w.heap.size w).alloc (Nat.le_refl _) (.cells #[.slice A h.g.length c, .slice B h.l.length d] 29)
  have k0 := Bk.new w #[.slice A h.g.length c, .slice B h.l.length d] 29
  have r0 := r.below hB0
  have HS := Lib.hid (heap_sizeOk _ _ h _ r0)
  cases hs : szB h
  · have HG : Hid (hpOk h = false) := Lib.hid (by rw [hpOk_szB, hs]; rfl)
    rw [hs] at HS
    clear hs
    go_enter Tryd.func56, Tryd.ntmps56
    go_wp2_with fail
    refine HS.out.mono ?_
    rintro e w1 ⟨rfl, hb1⟩
    have HB := Lib.hid (hB0.trans (hb1.mono hB0.size))
    clear k0 hB0 hb1 r r0
    go_wp2_with fail
    go_ret
    exact ⟨ret_bool HG.out.symm, HB.out⟩
  · obtain ⟨⟨n1, n2⟩, hl'⟩ := szB_parts hs
    have hl : h.l.length ≤ h.g.length ∧ h.g.length ≤ h.l.length := by omega
    have HG : Hid (hpOk h = hpTo h h.g.length) := Lib.hid (by rw [hpOk_szB, hs]; rfl)
    rw [hs] at HS
    clear hs hl'
    go_enter Tryd.func56, Tryd.ntmps56
    go_wp2_with fail
    refine HS.out.mono ?_
    rintro e w1 ⟨rfl, hb1⟩
    have hB1 := hB0.trans (hb1.mono hB0.size)
    have k1 := k0.below hb1 k0.lt
    obtain ⟨x0, -⟩ := k1.at_ 0 (x := .slice A h.g.length c) rfl
    obtain ⟨x1, -⟩ := k1.at_ 1 (x := .slice B h.l.length d) rfl
    have HR := Lib.hid (heap_objects _ _ h w1 (r0.below hb1) hl.2 (by omega))
    clear k0 hB0 hb1 r r0 HS
    go_wp2_with fail
    refine HR.out.mono ?_
    rintro e w2 ⟨g, rfl, hO2, hb2⟩
    have hB2 := hB1.trans (hb2.mono hB1.size)
    have hz2 := hb2.size
    clear k1 x0 x1 hB1 hb2 HR
    go_wp2_with fail
    go_loopw [11] (fun i wr => ∃ k : Nat, k ≤ h.g.length ∧ i = .int .i64 k ∧ wr.ownsRow w1.heap.size 92 3 (.slice (some ⟨g, 0, none⟩) h.g.length h.g.length) h.g.length (obCs h h.g.length) ∧ Hid (hpTo h k = true) ∧ Below w.heap.size w wr) (fun i _ => h.g.length - (intOf i).toNat)
    case atStart => exact ⟨0, Nat.zero_le _, rfl, hO2, Lib.hid (by simp [hpTo]), hB2⟩
    case round =>
      obtain ⟨k, hk, rfl, hO, HT, hB⟩ := hrel
      clear hO2 hB2
      by_cases hlt : k < h.g.length
      · obtain ⟨x, y, hxk, hyk, p0, p1, p2⟩ := ob_at hO hlt (Nat.le_refl _) hl.2
        have hbA := (Below.refl wr.heap.size wr).alloc (Nat.le_refl _) (.cells #[.int .i64 k, .int .i64 x, .bool y] 92)
        have HV := Lib.hid (obj_valid k x y (wr.alloc (.cells #[.int .i64 k, .int .i64 x, .bool y] 92)))
        cases hv : gOk x y
        · have HN := Lib.hid (hpTo_not hlt hxk.out hyk.out hv)
          rw [hv] at HV
          clear hv
          go_wp2_with (go_at_call 73; refine HV.out.mono ?_; rintro e w3 ⟨rfl, hb3⟩)
          go_ret
          exact ⟨ret_bool (by rw [HG.out, HN.out]), hB.trans ((hbA.trans (hb3.mono hbA.size)).mono hB.size)⟩
        · have HN := Lib.hid (hpTo_succ HT.out hxk.out hyk.out hv)
          rw [hv] at HV
          clear hv
          go_wp2_with (go_at_call 73; refine HV.out.mono ?_; rintro e w3 ⟨rfl, hb3⟩)
          have hb4 := hbA.trans (hb3.mono hbA.size)
          exact ⟨⟨k + 1, by omega, by go_num, ownsRow_below hO hb4, HN, hB.trans (hb4.mono hB.size)⟩, by simp [intOf]; omega⟩
      · obtain rfl : k = h.g.length := by omega
        go_wp2_with fail
        go_ret
        exact ⟨ret_bool (by rw [HG.out, HT.out]), hB⟩
set_option maxHeartbeats 1600000 in
theorem impl_Reuses (gv lv : Value) (h : Hp) (w : World) (r : RdHp w gv lv h) :
    Calls Tryd.prog 30 #[.agg #[gv, lv]] w fun e w' => e = .returned (.int .i64 (reF h)) ∧ Below w.heap.size w w' := by
  obtain ⟨A, c, B, d, rfl, rfl, hc1, hd1, hc2, hd2⟩ := r.slices
  have hB0 := (Below.refl w.heap.size w).alloc (Nat.le_refl _) (.cells #[.slice A h.g.length c, .slice B h.l.length d] 29)
  have k0 := Bk.new w #[.slice A h.g.length c, .slice B h.l.length d] 29
  have r0 := r.below hB0
  have HS := Lib.hid (impl_HeapOk _ _ h _ r0)
  cases hs : hpOk h
  · have HG : Hid (reF h = -1) := Lib.hid (by simp [reF, hs])
    rw [hs] at HS
    clear hs
    go_enter Tryd.func30, Tryd.ntmps30
    go_wp2_with fail
    refine HS.out.mono ?_
    rintro e w1 ⟨rfl, hb1⟩
    have HB := Lib.hid (hB0.trans (hb1.mono hB0.size))
    clear k0 hB0 hb1 r r0
    go_wp2_with fail
    go_ret
    exact ⟨ret_int HG.out.symm, HB.out⟩
  · obtain ⟨⟨n1, n2⟩, hl', hto⟩ := hpOk_parts hs
    have hl : h.l.length ≤ h.g.length ∧ h.g.length ≤ h.l.length := by omega
    have HT := Lib.hid hto
    have HG : Hid (reF h = reTo h h.g.length) := Lib.hid (by simp [reF, hs])
    rw [hs] at HS
    clear hs hl' hto
    go_enter Tryd.func30, Tryd.ntmps30
    go_wp2_with fail
    refine HS.out.mono ?_
    rintro e w1 ⟨rfl, hb1⟩
    have hB1 := hB0.trans (hb1.mono hB0.size)
    have k1 := k0.below hb1 k0.lt
    obtain ⟨x0, -⟩ := k1.at_ 0 (x := .slice A h.g.length c) rfl
    obtain ⟨x1, -⟩ := k1.at_ 1 (x := .slice B h.l.length d) rfl
    have HR := Lib.hid (heap_objects _ _ h w1 (r0.below hb1) hl.2 (by omega))
    clear k0 hB0 hb1 r r0 HS
    go_wp2_with fail
    refine HR.out.mono ?_
    rintro e w2 ⟨g, rfl, hO2, hb2⟩
    have hB2 := hB1.trans (hb2.mono hB1.size)
    clear k1 x0 x1 hB1 hb2 HR
    go_wp2_with fail
    go_loopw [3, 12] (fun n i wr => ∃ k : Nat, k ≤ h.g.length ∧ i = .int .i64 k ∧ wr.ownsRow w1.heap.size 92 3 (.slice (some ⟨g, 0, none⟩) h.g.length h.g.length) h.g.length (obCs h h.g.length) ∧ (∃ m : Int, Hid (m = reTo h k) ∧ (0 ≤ m ∧ m ≤ 1000000 * k) ∧ n = .int .i64 m) ∧ Below w.heap.size w wr) (fun _ i _ => h.g.length - (intOf i).toNat)
    case atStart => exact ⟨0, Nat.zero_le _, rfl, hO2, ⟨0, Lib.hid (by simp [reTo]), ⟨by omega, by omega⟩, rfl⟩, hB2⟩
    case round =>
      obtain ⟨k, hk, rfl, hO, ⟨m, HM, hm, rfl⟩, hB⟩ := hrel
      clear hO2 hB2
      by_cases hlt : k < h.g.length
      · obtain ⟨x, y, hxk, hyk, p0, p1, p2⟩ := ob_at hO hlt (Nat.le_refl _) hl.2
        have hbA := (Below.refl wr.heap.size wr).alloc (Nat.le_refl _) (.cells #[.int .i64 k, .int .i64 x, .bool y] 92)
        have ka := Bk.new wr #[.int .i64 k, .int .i64 x, .bool y] 92
        have HV := Lib.hid (ref_allocated ⟨k, x⟩ (wr.alloc (.cells #[.int .i64 k, .int .i64 x, .bool y] 92)))
        have hx0 := gOk_bounds (hpTo_at HT.out hlt hxk.out hyk.out)
        have hnx := reTo_succ hxk.out
        by_cases h0 : x = 0
        · have HN : Hid (m = reTo h (k + 1)) := Lib.hid (by rw [hnx, HM.out, h0]; simp [reu])
          rw [show decide (0 < (P2.mk k x).b) = false by simp [h0]] at HV
          clear hnx h0
          go_wp2_with (go_at_call 58; refine HV.out.mono ?_; rintro e w3 ⟨rfl, hb3⟩)
          have hb4 := hbA.trans (hb3.mono hbA.size)
          exact ⟨⟨k + 1, by omega, by go_num, ownsRow_below hO hb4, ⟨m, HN, ⟨by omega, by omega⟩, rfl⟩, hB.trans (hb4.mono hB.size)⟩, by simp [intOf]; omega⟩
        · have HN : Hid (m + (x - 1) = reTo h (k + 1)) := Lib.hid (by rw [hnx, HM.out]; simp [reu, h0])
          rw [show decide (0 < (P2.mk k x).b) = true by simp; omega] at HV
          clear hnx
          go_wp2_with (go_at_call 58; refine HV.out.mono ?_; rintro e w3 ⟨rfl, hb3⟩; obtain ⟨c2, -⟩ := (ka.below hb3 ka.lt).at_ 1 (x := .int .i64 x) rfl)
          have hb4 := hbA.trans (hb3.mono hbA.size)
          exact ⟨⟨k + 1, by omega, by go_num, ownsRow_below hO hb4, ⟨m + (x - 1), HN, ⟨by omega, by omega⟩, by go_num⟩, hB.trans (hb4.mono hB.size)⟩, by simp [intOf]; omega⟩
      · obtain rfl : k = h.g.length := by omega
        go_wp2_with fail
        go_ret
        exact ⟨ret_int (by rw [HG.out, HM.out]), hB⟩
end Go.Proofs.YtpenneklpolhgaaDoor
