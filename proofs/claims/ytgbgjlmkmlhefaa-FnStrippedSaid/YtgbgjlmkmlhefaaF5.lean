/- Contracts about lists of spots: compared, strictly ascending, one among them (impl.compareSpots, impl.spotsOk, slices.Contains; spec.l07Less, spec.l07Has). Conditions: the list and the codes can be read. -/
import Derived.Test.YtgbgjlmkmlhefaaF2
namespace Go.Proofs.Ytgbgjlmkmlhefaa
set_option maxRecDepth 20000
set_option linter.unusedSimpArgs false
set_option linter.unusedVariables false
open Go.ChangeShapes Go.WideShapes Go.ChangeAt Go.RowKit
set_option linter.unusedVariables false
def cmpI (x y : Int) : Int := if x < y then -1 else if y < x then 1 else 0
def cmpS (a b : P2) : Int := if cmpI a.a b.a = 0 then cmpI a.b b.b else cmpI a.a b.a
theorem cmpS_less (a b : P2) : decide (0 ≤ cmpS a b) = !lessS a b := by
  unfold cmpS cmpI lessS
  rw [Bool.eq_iff_iff]
  simp only [decide_eq_true_eq, Bool.not_eq_true', Bool.or_eq_false_iff, Bool.and_eq_false_iff, decide_eq_false_iff_not]
  constructor
  · intro h
    repeat' split at h
    all_goals omega
  · intro h
    repeat' split
    all_goals omega
set_option maxHeartbeats 800000 in
theorem spec_l07Less (a b : P2) (w : World) :
    Calls Try.prog 48 #[.agg #[.int .i64 a.a, .int .i64 a.b], .agg #[.int .i64 b.a, .int .i64 b.b]] w fun e w' => e = .returned (.bool (lessS a b)) ∧ Below w.heap.size w w' := by
  obtain ⟨a0, a1⟩ := a
  obtain ⟨b0, b1⟩ := b
  have hB := ((Below.refl w.heap.size w).alloc (Nat.le_refl _) (.cells #[.int .i64 a0, .int .i64 a1] 29)).alloc (by simp) (.cells #[.int .i64 b0, .int .i64 b1] 29)
  have HB := Lib.hid hB
  have HL : Hid (lessS ⟨a0, a1⟩ ⟨b0, b1⟩ = (decide (a0 < b0) || decide (a0 = b0) && decide (a1 < b1))) := Lib.hid rfl
  clear hB
  by_cases h1 : a0 < b0
  · go_enter Try.func48, Try.ntmps48
    go_wp2_with fail
    go_ret
    exact ⟨ret_bool (by rw [HL.out]; simp [h1]), HB.out⟩
  · by_cases h2 : a0 = b0
    · have e2 : (a0 == b0) = true := by simp [h2]
      have H2 := Lib.hid h2
      clear h2
      by_cases h3 : a1 < b1
      · go_enter Try.func48, Try.ntmps48
        go_wp2_with fail
        go_ret
        exact ⟨ret_bool (by rw [HL.out]; simp [H2.out, h3]), HB.out⟩
      · go_enter Try.func48, Try.ntmps48
        go_wp2_with fail
        go_ret
        exact ⟨ret_bool (by rw [HL.out]; simp [H2.out, h3]), HB.out⟩
    · have e2 : (a0 == b0) = false := by simp [h2]
      have H2 := Lib.hid h2
      clear h2
      go_enter Try.func48, Try.ntmps48
      go_wp2_with fail
      go_ret
      exact ⟨ret_bool (by rw [HL.out]; simp [H2.out, h1]), HB.out⟩
theorem any_no {α : Type} {q : α → Bool} {xs : List α} {k : Nat} {x : α} (h : (xs.take k).any q = false) (hx : xs[k]? = some x) (hq : q x = false) : (xs.take (k + 1)).any q = false := by
  rw [List.take_add_one, List.any_append, h, hx]
  simp [hq]
theorem any_yes {α : Type} {q : α → Bool} {xs : List α} {k : Nat} {x : α} (hx : xs[k]? = some x) (hq : q x = true) : xs.any q = true := List.any_eq_true.2 ⟨x, List.mem_of_getElem? hx, hq⟩
set_option maxHeartbeats 1600000 in
theorem spec_l07Has (v : Value) (ss : List P2) (t i : Int) (w : World) (h : Rd w v 2 ss.length (flc2 ss)) :
    Calls Try.prog 49 #[v, .int .i64 t, .int .i64 i] w fun e w' => e = .returned (.bool (hasS ss t i)) ∧ w = w' := by
  obtain ⟨A, c, rfl, -, hnc, hc, hr⟩ := h
  unfold maxLen at hc
  go_enter Try.func49, Try.ntmps49
  go_wp2
  go_loop [7] (fun j => ∃ k : Nat, k ≤ ss.length ∧ j = .int .i64 k ∧ Hid ((ss.take k).any (fun s => s.a == t && s.b == i) = false)) (fun j => ss.length - (intOf j).toNat)
  case atStart => exact ⟨0, Nat.zero_le _, rfl, Lib.hid (by simp)⟩
  case round =>
    obtain ⟨k, hk, rfl, HN⟩ := hrel
    by_cases hlt : k < ss.length
    · obtain ⟨b, o, rfl, hb, hcell⟩ := hr (by omega)
      obtain ⟨x, hxk, hx0, hx1⟩ := p2_at hcell hlt
      obtain ⟨x0, x1⟩ := x
      simp only at hx0 hx1
      clear hcell hr
      cases e1 : (x0 == t)
      · have HQ := Lib.hid (any_no HN.out hxk.out (by simp only [e1, Bool.false_and]))
        go_wp2_with fail
        exact ⟨⟨k + 1, by omega, by go_num, HQ⟩, by simp [intOf]; omega⟩
      · cases e2 : (x1 == i)
        · have HQ := Lib.hid (any_no HN.out hxk.out (by simp only [e1, e2, Bool.and_false]))
          go_wp2_with fail
          exact ⟨⟨k + 1, by omega, by go_num, HQ⟩, by simp [intOf]; omega⟩
        · have HQ : Hid (hasS ss t i = true) := Lib.hid (any_yes hxk.out (by simp only [e1, e2, Bool.and_true]))
          go_wp2_with fail
          go_ret
          exact ⟨ret_bool HQ.out.symm, rfl⟩
    · have HQ : Hid (hasS ss t i = false) := Lib.hid (by have := HN.out; rwa [List.take_of_length_le (by omega)] at this)
      go_wp2_with fail
      go_ret
      exact ⟨ret_bool HQ.out.symm, rfl⟩
set_option maxHeartbeats 400000 in
theorem cmp_nan (x : Int) (w : World) : Calls Try.prog 107 #[.int .i64 x] w fun e w' => e = .returned (.bool false) ∧ w = w' := by
  have hb : (x != x) = false := by simp
  go_enter Try.func107, Try.ntmps107
  go_wp2
  go_ret
  exact ⟨rfl, rfl⟩
set_option maxHeartbeats 800000 in
theorem cmp_cmp (x y : Int) (w : World) : Calls Try.prog 94 #[.int .i64 x, .int .i64 y] w fun e w' => e = .returned (.int .i64 (cmpI x y)) ∧ w = w' := by
  have HC : Hid (cmpI x y = if x < y then -1 else if y < x then 1 else 0) := Lib.hid rfl
  by_cases h1 : x < y
  · go_enter Try.func94, Try.ntmps94
    go_wp2_with (go_at_call 107; refine (cmp_nan _ _).mono ?_; rintro e w' ⟨rfl, rfl⟩)
    go_ret
    exact ⟨ret_int (by rw [HC.out, if_pos h1]), rfl⟩
  · by_cases h2 : y < x
    · go_enter Try.func94, Try.ntmps94
      go_wp2_with (go_at_call 107; refine (cmp_nan _ _).mono ?_; rintro e w' ⟨rfl, rfl⟩)
      go_ret
      exact ⟨ret_int (by rw [HC.out, if_neg (by omega), if_pos h2]), rfl⟩
    · go_enter Try.func94, Try.ntmps94
      go_wp2_with (go_at_call 107; refine (cmp_nan _ _).mono ?_; rintro e w' ⟨rfl, rfl⟩)
      go_ret
      exact ⟨ret_int (by rw [HC.out, if_neg (by omega), if_neg (by omega)]), rfl⟩
set_option maxHeartbeats 800000 in
theorem cmp_or (v : Value) (x y : Int) (w : World) (h : Rd w v 1 2 (ints [x, y])) : Calls Try.prog 93 #[v] w fun e w' => e = .returned (.int .i64 (if x = 0 then y else x)) ∧ w = w' := by
  obtain ⟨A, c, rfl, -, hnc, hc, hr⟩ := h
  unfold maxLen at hc
  obtain ⟨b, o, rfl, hb, hcell⟩ := hr (by omega)
  have hx := hcell 0 (.int .i64 x) rfl
  have hy := hcell 1 (.int .i64 y) rfl
  rw [Nat.add_zero] at hx
  clear hcell hr
  cases e1 : (x != 0)
  · have h0 : x = 0 := by simpa using e1
    have H0 := Lib.hid h0
    clear h0
    cases e2 : (y != 0)
    · have h0 : y = 0 := by simpa using e2
      have H1 := Lib.hid h0
      clear h0
      go_enter Try.func93, Try.ntmps93
      go_wp2_with fail
      refine wp_loop_rounds 3 ?_
      rw [rounds_succ]
      go_wp2_with fail
      rw [rounds_succ]
      go_wp2_with fail
      rw [rounds_succ]
      go_wp2_with fail
      go_ret
      exact ⟨ret_int (by have a := H0.out; have b := H1.out; simp [a, b]), rfl⟩
    · go_enter Try.func93, Try.ntmps93
      go_wp2_with fail
      refine wp_loop_rounds 2 ?_
      rw [rounds_succ]
      go_wp2_with fail
      rw [rounds_succ]
      go_wp2_with fail
      go_ret
      exact ⟨ret_int (by have a := H0.out; simp [a]), rfl⟩
  · have h0 : ¬ x = 0 := by simpa using e1
    have H0 := Lib.hid h0
    clear h0
    go_enter Try.func93, Try.ntmps93
    go_wp2_with fail
    refine wp_loop_rounds 1 ?_
    rw [rounds_succ]
    go_wp2_with fail
    go_ret
    exact ⟨ret_int (by have a := H0.out; simp [a]), rfl⟩
set_option maxHeartbeats 1600000 in
theorem impl_compareSpots (a b : P2) (w : World) :
    Calls Try.prog 81 #[.agg #[.int .i64 a.a, .int .i64 a.b], .agg #[.int .i64 b.a, .int .i64 b.b]] w fun e w' => e = .returned (.int .i64 (cmpS a b)) ∧ Below w.heap.size w w' := by
  obtain ⟨a0, a1⟩ := a
  obtain ⟨b0, b1⟩ := b
  obtain ⟨W, hW⟩ : ∃ W, (w.alloc (.cells #[.int .i64 a0, .int .i64 a1] 29)).alloc (.cells #[.int .i64 b0, .int .i64 b1] 29) = W := ⟨_, rfl⟩
  have k0 := (Bk.new w #[.int .i64 a0, .int .i64 a1] 29).alloc (.cells #[.int .i64 b0, .int .i64 b1] 29)
  have k1 := Bk.new (w.alloc (.cells #[.int .i64 a0, .int .i64 a1] 29)) #[.int .i64 b0, .int .i64 b1] 29
  have hB := ((Below.refl w.heap.size w).alloc (Nat.le_refl _) (.cells #[.int .i64 a0, .int .i64 a1] 29)).alloc (by simp) (.cells #[.int .i64 b0, .int .i64 b1] 29)
  simp only [World.size_alloc] at k1
  rw [hW] at k0 k1 hB
  have HW := Lib.hid hW
  have HB := Lib.hid hB
  have l0 := k0.lt
  have l1 := k1.lt
  obtain ⟨c0, -⟩ := k0.at_ 0 (x := .int .i64 a0) rfl
  obtain ⟨c1, -⟩ := k0.at_ 1 (x := .int .i64 a1) rfl
  obtain ⟨c2, -⟩ := k1.at_ 0 (x := .int .i64 b0) rfl
  obtain ⟨c3, -⟩ := k1.at_ 1 (x := .int .i64 b1) rfl
  have HS : Hid (∀ q : World, Below W.heap.size W q → Below W.heap.size W q ∧ q.cell? ⟨w.heap.size, 0, none⟩ = some (.int .i64 a0) ∧ q.cell? ⟨w.heap.size, 1, none⟩ = some (.int .i64 a1) ∧
      q.cell? ⟨w.heap.size + 1, 0, none⟩ = some (.int .i64 b0) ∧ q.cell? ⟨w.heap.size + 1, 1, none⟩ = some (.int .i64 b1)) := Lib.hid fun q hq =>
    ⟨hq, (hq.cell (p := ⟨w.heap.size, 0, none⟩) l0).trans c0, (hq.cell (p := ⟨w.heap.size, 1, none⟩) l0).trans c1, (hq.cell (p := ⟨w.heap.size + 1, 0, none⟩) l1).trans c2, (hq.cell (p := ⟨w.heap.size + 1, 1, none⟩) l1).trans c3⟩
  obtain ⟨R, hR⟩ : ∃ R, (if cmpI a0 b0 = 0 then cmpI a1 b1 else cmpI a0 b0) = R := ⟨_, rfl⟩
  have HC : Hid (cmpS ⟨a0, a1⟩ ⟨b0, b1⟩ = R) := Lib.hid hR
  have hO := fun (v : Value) (q : World) (h : Rd q v 1 2 (ints [cmpI a0 b0, cmpI a1 b1])) => toB (cmp_or v (cmpI a0 b0) (cmpI a1 b1) q h)
  rw [hR] at hO
  have HO := Lib.hid hO
  clear hW hB k0 k1 hR hO
  go_enter Try.func81, Try.ntmps81
  go_upto_region 1 with (fail)
  rw [HW.out]
  go_region_held3 (fun q => Below W.heap.size W q ∧ q.cell? ⟨w.heap.size, 0, none⟩ = some (.int .i64 a0) ∧ q.cell? ⟨w.heap.size, 1, none⟩ = some (.int .i64 a1) ∧
      q.cell? ⟨w.heap.size + 1, 0, none⟩ = some (.int .i64 b0) ∧ q.cell? ⟨w.heap.size + 1, 1, none⟩ = some (.int .i64 b1)) (first | (exact HS.out _ (Below.refl _ _).drew) | (exact HS.out _ (hS2.alloc hS2.size _)) | (exact HS.out _ (by assumption)))
    (first
      | (go_at_call_of 94 (Value.int .i64 a0 : Value); have hS := ‹Below W.heap.size W _ ∧ _›.1; refine (toB (cmp_cmp a0 b0 _)).mono ?_; rintro e w9 ⟨rfl, hb9⟩; have hS2 := hS.trans (hb9.mono hS.size); clear hS)
      | (go_at_call_of 94 (Value.int .i64 a1 : Value); have hS := ‹Below W.heap.size W _ ∧ _›.1; refine (toB (cmp_cmp a1 b1 _)).mono ?_; rintro e w9 ⟨rfl, hb9⟩; have hS2 := hS.trans (hb9.mono hS.size); clear hS)
      | (go_at_call 93; have hS := ‹Below W.heap.size W _ ∧ _›.1; refine (HO.out _ _ (Rd.newInts _ [cmpI a0 b0, cmpI a1 b1] _ rfl (by simp))).mono ?_; rintro e w9 ⟨rfl, hb9⟩; have hS2 := hS.trans (hb9.mono hS.size); clear hS))
  all_goals
    go_wp2_with fail
    go_ret
    exact ⟨ret_int HC.out.symm, HB.out.trans (‹Below W.heap.size W _ ∧ _›.1.mono HB.out.size)⟩
theorem okS_no {p : Pr} {ss : List P2} {k : Nat} {s : P2} (hs : ss[k]? = some s) (h : spotB p s = false) : okS p ss k = false := by simp [okS, hs, h]
theorem okS_first {p : Pr} {ss : List P2} {s : P2} (hs : ss[0]? = some s) (h : spotB p s = true) : okS p ss 0 = true := by simp [okS, hs, h]
theorem okS_next {p : Pr} {ss : List P2} {k : Nat} {r s : P2} (hs : ss[k]? = some s) (hr : ss[k - 1]? = some r) (hk : 0 < k) (h : spotB p s = true) : okS p ss k = lessS r s := by
  have : decide (k = 0) = false := by simp; omega
  simp [okS, hs, hr, h, this]
set_option maxHeartbeats 6400000 in
theorem impl_spotsOk (sv v : Value) (ss : List P2) (p : Pr) (w : World) (hs : Rd w sv 2 ss.length (flc2 ss)) (h : RdSS w v p.x) :
    Calls Try.prog 50 #[sv, .agg #[.int .i64 p.c, v]] w fun e w' => e = .returned (.bool (spotsB p ss)) ∧ Below w.heap.size w w' := by
  obtain ⟨vs, ⟨A, c, rfl, -, hnc, hc, -⟩, -⟩ := id h
  obtain ⟨As, cs, rfl, -, hns, hcs, hrs⟩ := id hs
  unfold maxLen at hc hcs
  have hB0 := (Below.refl w.heap.size w).alloc (Nat.le_refl _) (.cells #[.int .i64 p.c, .slice A p.x.length c] 33)
  have k0 := Bk.new w #[.int .i64 p.c, .slice A p.x.length c] 33
  have HR := Lib.hid h
  clear h hs
  go_enter Try.func50, Try.ntmps50
  go_wp2_with fail
  go_loopw [5, 9] (fun _ j wr => ∃ k : Nat, k ≤ ss.length ∧ j = .int .i64 k ∧ Hid ((List.range k).all (okS p ss) = true) ∧ Below w.heap.size w wr ∧ Bk wr w.heap.size #[.int .i64 p.c, .slice A p.x.length c] 33) (fun _ j _ => ss.length - (intOf j).toNat)
  case atStart => exact ⟨0, Nat.zero_le _, rfl, Lib.hid (by simp), hB0, k0⟩
  case round =>
    obtain ⟨k, hk, rfl, HN, hB, kp⟩ := hrel
    clear hB0 k0
    by_cases hlt : k < ss.length
    · obtain ⟨b, o, rfl, hb, hcell⟩ := hrs (by omega)
      obtain ⟨x, hxk, hx0, hx1⟩ := p2_at (fun j u hu => (hB.cell (p := ⟨b, o + j, none⟩) hb).trans (hcell j u hu)) hlt
      obtain ⟨xa, xb⟩ := x
      simp only at hx0 hx1
      have hbr : b < wr.heap.size := Nat.lt_of_lt_of_le hb hB.size
      have k2 := Bk.new wr #[.int .i64 xa, .int .i64 xb] 29
      have hBv := hB.alloc (Nat.le_trans hB.size (Nat.le_refl _)) (.cells #[.int .i64 xa, .int .i64 xb] 29)
      have kv := kp.alloc (.cells #[.int .i64 xa, .int .i64 xb] 29)
      obtain ⟨wv, hwv⟩ : ∃ wv, wr.alloc (.cells #[.int .i64 xa, .int .i64 xb] 29) = wv := ⟨_, rfl⟩
      rw [hwv] at k2 hBv kv
      have HWV := Lib.hid hwv
      have hRv : ∀ q : Past wv, RdSS q.v (.slice A p.x.length c) p.x := fun q => (HR.out.below hBv).below q.hb
      have hC : ∀ q : Past wv, Calls Try.prog 14 #[.agg #[.int .i64 xa, .int .i64 xb], .agg #[.int .i64 p.c, .slice A p.x.length c]] q.v fun e w' => e = .returned (.bool (spotB p ⟨xa, xb⟩)) ∧ Below q.v.heap.size q.v w' := fun q => impl_SpotOk _ ⟨xa, xb⟩ p _ (hRv q)
      obtain ⟨d0, -⟩ := k2.at_ 0 (x := .int .i64 xa) rfl
      obtain ⟨d1, -⟩ := k2.at_ 1 (x := .int .i64 xb) rfl
      obtain ⟨d2, -⟩ := kv.at_ 0 (x := .int .i64 p.c) rfl
      obtain ⟨d3, -⟩ := kv.at_ 1 (x := .slice A p.x.length c) rfl
      have p0 := Past.cell k2.lt d0
      have p1 := Past.cell k2.lt d1
      have p2 := Past.cell kv.lt d2
      have p3 := Past.cell kv.lt d3
      have HBv := Lib.hid hBv
      have KV := Lib.hid kv
      have hszv : wr.heap.size ≤ wv.heap.size := by rw [← hwv]; simp
      have HCELL : Hid (∀ W, Below w.heap.size w W → ∀ j u, (flc2 ss)[j]? = some u → W.cell? ⟨b, o + j, none⟩ = some u) := Lib.hid fun W hW j u hu => (hW.cell (p := ⟨b, o + j, none⟩) hb).trans (hcell j u hu)
      clear hwv hBv kv k2 d0 d1 d2 d3 hcell hrs hRv kp
      go_upto_region 4 with (fail)
      rw [HWV.out]
      clear hx0 hx1
      cases hsp : spotB p ⟨xa, xb⟩
      · have HQ := Lib.hid (okS_false hlt (okS_no hxk.out hsp))
        rw [hsp] at hC
        have HC := Lib.hid hC
        clear hC hsp
        refine wp_region_past (by kernel_rfl) (by kernel_rfl) ?_
        repeat (go_big_quiet_step (first | (go_at_call 14; exact Calls.past_of (HC.out _))))
        refine wpQuiet_nil ?_
        intro _ hw'
        obtain ⟨q, rfl⟩ := hw'
        go_wp2_with fail
        go_ret
        exact ⟨ret_bool HQ.out.symm, HBv.out.trans (q.hb.mono HBv.out.size)⟩
      · have HSP := Lib.hid hsp
        rw [hsp] at hC
        have HC := Lib.hid hC
        clear hC hsp
        by_cases hk0 : k = 0
        · subst hk0
          have HQ := Lib.hid (okS_snoc HN.out (okS_first hxk.out HSP.out))
          have hz : ¬ (0 : Int) < ((0 : Nat) : Int) := by omega
          refine wp_region_past (by kernel_rfl) (by kernel_rfl) ?_
          repeat (go_big_quiet_step (first | (go_at_call 14; exact Calls.past_of (HC.out _))))
          refine wpQuiet_nil ?_
          intro _ hw'
          obtain ⟨q, rfl⟩ := hw'
          go_wp2_with fail
          exact ⟨⟨1, by omega, by go_num, HQ, HBv.out.trans (q.hb.mono HBv.out.size), KV.out.below q.hb KV.out.lt⟩, by simp [intOf]; omega⟩
        · have hkp : (0 : Int) < (k : Int) := by omega
          obtain ⟨j, rfl⟩ : ∃ j, k = j + 1 := ⟨k - 1, by omega⟩
          obtain ⟨y, hyk, hy0, hy1⟩ := p2_at (HCELL.out _ HBv.out) (k := j) (by omega)
          obtain ⟨ya, yb⟩ := y
          simp only at hy0 hy1
          have hbv : b < wv.heap.size := by omega
          have p4 := Past.cell hbv hy0
          have p5 := Past.cell hbv hy1
          have hwr : IntKind.i64.wrap (((j + 1 : Nat) : Int) - 1) = (j : Int) := by rw [show (((j + 1 : Nat) : Int) - 1) = (j : Int) from by omega]; exact IntWalk.i64_in _ (by omega)
          have hj0 : (j : Int) < ss.length := by omega
          have HD : Hid (∀ W : World, Calls Try.prog 81 #[.agg #[.int .i64 ya, .int .i64 yb], .agg #[.int .i64 xa, .int .i64 xb]] W fun e w' => e = .returned (.int .i64 (cmpS ⟨ya, yb⟩ ⟨xa, xb⟩)) ∧ Below W.heap.size W w') := Lib.hid fun W => impl_compareSpots ⟨ya, yb⟩ ⟨xa, xb⟩ W
          have hok := okS_next (p := p) hxk.out (k := j + 1) (by simpa using hyk.out) (by omega) HSP.out
          have hle := cmpS_less ⟨ya, yb⟩ ⟨xa, xb⟩
          obtain ⟨R, hR⟩ : ∃ R, cmpS ⟨ya, yb⟩ ⟨xa, xb⟩ = R := ⟨_, rfl⟩
          rw [hR] at HD hle
          clear hy0 hy1 hR hk0
          cases hls : lessS ⟨ya, yb⟩ ⟨xa, xb⟩
          · rw [hls] at hok hle
            have hR0 : 0 ≤ R := by simpa using hle
            have HQ := Lib.hid (okS_false hlt hok)
            clear hls hok hle
            refine wp_region_past (by kernel_rfl) (by kernel_rfl) ?_
            repeat (go_big_quiet_step (first | (go_at_call 14; exact Calls.past_of (HC.out _)) | (go_at_call 81; exact Calls.past_of (HD.out _))))
            refine wpQuiet_nil ?_
            intro _ hw'
            obtain ⟨q, rfl⟩ := hw'
            go_wp2_with fail
            go_ret
            exact ⟨ret_bool HQ.out.symm, HBv.out.trans (q.hb.mono HBv.out.size)⟩
          · rw [hls] at hok hle
            have hR0 : ¬ 0 ≤ R := by simpa using hle
            have HQ := Lib.hid (okS_snoc HN.out hok)
            clear hls hok hle
            refine wp_region_past (by kernel_rfl) (by kernel_rfl) ?_
            repeat (go_big_quiet_step (first | (go_at_call 14; exact Calls.past_of (HC.out _)) | (go_at_call 81; exact Calls.past_of (HD.out _))))
            refine wpQuiet_nil ?_
            intro _ hw'
            obtain ⟨q, rfl⟩ := hw'
            go_wp2_with fail
            exact ⟨⟨j + 1 + 1, by omega, by go_num, HQ, HBv.out.trans (q.hb.mono HBv.out.size), KV.out.below q.hb KV.out.lt⟩, by simp [intOf]; omega⟩
    · obtain rfl : k = ss.length := by omega
      have HQ : Hid (spotsB p ss = true) := HN
      go_wp2_with fail
      go_ret
      exact ⟨ret_bool HQ.out.symm, hB⟩
end Go.Proofs.Ytgbgjlmkmlhefaa
