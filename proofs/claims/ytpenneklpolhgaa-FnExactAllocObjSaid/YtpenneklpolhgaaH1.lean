/- Contracts of chapter 8's model functions (package spec), first part: HeapOk, the copy of a heap, NewHeap, GoodRef, Reuses. Condition: the heap's rows can be read. -/
import Derived.Test.YtpenneklpolhgaaVH
import Derived.Deep.RegionHeld3
namespace Go.Proofs.Ytpenneklpolhgaa
set_option maxRecDepth 20000
set_option linter.unusedSimpArgs false
set_option linter.unusedVariables false
open Go.ChangeShapes Go.WideShapes Go.ChangeAt Go.RowKit
set_option linter.unusedVariables false
set_option maxHeartbeats 1600000 in
theorem spec_HeapOk (gv lv : Value) (h : Hp) (w : World) (r : RdHp w gv lv h) :
    Calls Try.prog 10 #[.agg #[gv, lv]] w fun e w' => e = .returned (.bool (hpOk h)) ∧ Below w.heap.size w w' := by
  obtain ⟨A, c, B, d, rfl, rfl, hc1, hd1, hc2, hd2⟩ := r.slices
  have hB := (Below.refl w.heap.size w).alloc (Nat.le_refl _) (.cells #[.slice A h.g.length c, .slice B h.l.length d] 28)
  cases hin : inB h.g.length 1 24
  · have HO := Lib.hid (hpOk_size hin)
    go_enter Try.func10, Try.ntmps10
    go_wp2_with (go_at_call 33; refine (l01In _ _ _ _).mono ?_; rintro e w' ⟨rfl, rfl⟩)
    go_ret
    exact ⟨ret_bool HO.out.symm, hB⟩
  · by_cases hlen : h.l.length = h.g.length
    · have HA := Lib.hid (hpOk_all hin hlen)
      have h1 := inB_true hin
      have hlen' : h.l.length ≤ h.g.length ∧ h.g.length ≤ h.l.length := by omega
      have hne : ((h.l.length : Int) != (h.g.length : Int)) = false := by simp [hlen]
      obtain ⟨b, o, c', b', o', d', he, he', -, ⟨hb, hb'⟩, hcell, hcell'⟩ := r.open_ (by omega) (by omega)
      injection he with e1 _ e2
      injection he' with e3 _ e4
      subst e1 e2 e3 e4
      clear hlen r
      go_enter Try.func10, Try.ntmps10
      go_wp2_with (go_at_call 33; refine (l01In _ _ _ _).mono ?_; rintro e w' ⟨rfl, rfl⟩)
      go_loop [3] (fun i => ∃ k : Nat, k ≤ h.g.length ∧ i = .int .i64 k ∧ Hid (hpTo h k = true)) (fun i => h.g.length - (intOf i).toNat)
      case atStart => exact ⟨0, Nat.zero_le _, rfl, Lib.hid (by simp [hpTo])⟩
      case round =>
        obtain ⟨k, hk, rfl, HT⟩ := hrel
        by_cases hlt : k < h.g.length
        · obtain ⟨x, hxk, hx⟩ := int_at hcell hlt
          obtain ⟨y, hyk, hy⟩ := bool_at (k := k) hcell' (by omega)
          have hkl : k < h.l.length := by omega
          clear hcell hcell'
          cases hv : inB x 0 1000000
          · have HO := Lib.hid (hpTo_not hlt hxk.out hyk.out (by simp [gOk, hv]))
            go_wp2_with (go_at_call 33; refine (l01In _ _ _ _).mono ?_; rintro e w' ⟨rfl, rfl⟩)
            go_ret
            exact ⟨ret_bool (by rw [HA.out, HO.out]), hB⟩
          · cases y
            · have HO := Lib.hid (hpTo_succ HT.out hxk.out hyk.out (by simp [gOk, hv]))
              go_wp2_with (go_at_call 33; refine (l01In _ _ _ _).mono ?_; rintro e w' ⟨rfl, rfl⟩)
              exact ⟨⟨k + 1, by omega, by go_num, HO⟩, by simp [intOf]; omega⟩
            · by_cases h0 : x = 0
              · have HO := Lib.hid (hpTo_not hlt hxk.out hyk.out (by simp [gOk, h0]))
                subst h0
                go_wp2_with (go_at_call 33; refine (l01In _ _ _ _).mono ?_; rintro e w' ⟨rfl, rfl⟩)
                go_ret
                exact ⟨ret_bool (by rw [HA.out, HO.out]), hB⟩
              · have HO := Lib.hid (hpTo_succ HT.out hxk.out hyk.out (by simp [gOk, hv, h0]))
                have h0' : (x == 0) = false := by simp [h0]
                go_wp2_with (go_at_call 33; refine (l01In _ _ _ _).mono ?_; rintro e w' ⟨rfl, rfl⟩)
                exact ⟨⟨k + 1, by omega, by go_num, HO⟩, by simp [intOf]; omega⟩
        · obtain rfl : k = h.g.length := by omega
          go_wp2_with fail
          go_ret
          exact ⟨ret_bool (by rw [HA.out, HT.out]), hB⟩
    · have HO := Lib.hid (hpOk_len hlen)
      have hne : ((h.l.length : Int) != (h.g.length : Int)) = true := by simp; omega
      go_enter Try.func10, Try.ntmps10
      go_wp2_with (go_at_call 33; refine (l01In _ _ _ _).mono ?_; rintro e w' ⟨rfl, rfl⟩)
      go_ret
      exact ⟨ret_bool HO.out.symm, hB⟩
set_option maxHeartbeats 1600000 in
theorem spec_Reuses (gv lv : Value) (h : Hp) (w : World) (r : RdHp w gv lv h) :
    Calls Try.prog 29 #[.agg #[gv, lv]] w fun e w' => e = .returned (.int .i64 (reF h)) ∧ Below w.heap.size w w' := by
  obtain ⟨A, c, B, d, rfl, rfl, hc1, hd1, hc2, hd2⟩ := r.slices
  have hB := (Below.refl w.heap.size w).alloc (Nat.le_refl _) (.cells #[.slice A h.g.length c, .slice B h.l.length d] 28)
  have k0 := Bk.new w #[.slice A h.g.length c, .slice B h.l.length d] 28
  have HS := Lib.hid (spec_HeapOk _ _ h _ (r.below hB))
  cases hok : hpOk h
  · have HR : Hid (reF h = -1) := Lib.hid (by simp [reF, hok])
    have HH : Hid (Calls Try.prog 10 #[.agg #[.slice A h.g.length c, .slice B h.l.length d]] (w.alloc (.cells #[.slice A h.g.length c, .slice B h.l.length d] 28)) fun e w' => e = .returned (.bool false) ∧ Below (w.alloc (.cells #[.slice A h.g.length c, .slice B h.l.length d] 28)).heap.size (w.alloc (.cells #[.slice A h.g.length c, .slice B h.l.length d] 28)) w') := Lib.hid (by rw [← hok]; exact HS.out)
    clear HS
    go_enter Try.func29, Try.ntmps29
    go_wp2_with fail
    refine HH.out.mono ?_
    rintro e w1 ⟨rfl, hb1⟩
    have HB := Lib.hid (hB.trans (hb1.mono hB.size))
    clear hB k0 hb1
    go_wp2_with fail
    go_ret
    exact ⟨ret_int HR.out.symm, HB.out⟩
  · have HH : Hid (Calls Try.prog 10 #[.agg #[.slice A h.g.length c, .slice B h.l.length d]] (w.alloc (.cells #[.slice A h.g.length c, .slice B h.l.length d] 28)) fun e w' => e = .returned (.bool true) ∧ Below (w.alloc (.cells #[.slice A h.g.length c, .slice B h.l.length d] 28)).heap.size (w.alloc (.cells #[.slice A h.g.length c, .slice B h.l.length d] 28)) w') := Lib.hid (by rw [← hok]; exact HS.out)
    clear HS
    have hR : reF h = reTo h h.g.length := by simp [reF, hok]
    have HR := Lib.hid hR
    obtain ⟨⟨q1, q2⟩, q3', q4⟩ := hpOk_parts hok
    have HT := Lib.hid q4
    have q3 : h.l.length ≤ h.g.length ∧ h.g.length ≤ h.l.length := by omega
    clear q3'
    clear hR q4 hok
    go_enter Try.func29, Try.ntmps29
    go_wp2_with fail
    refine HH.out.mono ?_
    rintro e w1 ⟨rfl, hb1⟩
    have hB1 := hB.trans (hb1.mono hB.size)
    have k1 := k0.below hb1 k0.lt
    clear HH
    obtain ⟨b, o, c', b', o', d', he, he', -, ⟨hb, hb'⟩, hcell, hcell'⟩ := r.open_ (by omega) (by omega)
    injection he with e1 _ e2
    injection he' with e3 _ e4
    subst e1 e2 e3 e4
    clear r
    obtain ⟨hc0, -⟩ := k1.at_ 0 (x := .slice (some ⟨b, o, none⟩) h.g.length c) rfl
    have HB := Lib.hid hB1
    clear hB k0 hb1 hB1 k1
    go_wp2_with fail
    go_loop [3, 4] (fun n i => ∃ k : Nat, k ≤ h.g.length ∧ i = .int .i64 k ∧ ∃ m : Int, Hid (m = reTo h k) ∧ (0 ≤ m ∧ m ≤ 1000000 * k) ∧ n = .int .i64 m) (fun _ i => h.g.length - (intOf i).toNat)
    case atStart => exact ⟨0, Nat.zero_le _, rfl, 0, Lib.hid (by simp [reTo]), ⟨by omega, by omega⟩, rfl⟩
    case round =>
      obtain ⟨k, hk, rfl, m, HM, hm, rfl⟩ := hrel
      by_cases hlt : k < h.g.length
      · obtain ⟨x, hxk, hx⟩ := int_at (w := w1) (fun j u hu => (HB.out.cell (p := ⟨b, o + j, none⟩) hb).trans (hcell j u hu)) hlt
        obtain ⟨y, hyk⟩ : ∃ y, h.l[k]? = some y := ⟨h.l[k]'(by omega), List.getElem?_eq_getElem _⟩
        have hx0 := gOk_bounds (hpTo_at HT.out hlt hxk.out hyk)
        have hnx := reTo_succ hxk.out
        clear hcell hcell' hyk
        by_cases h0 : x = 0
        · have HN : Hid (m = reTo h (k + 1)) := Lib.hid (by rw [hnx, HM.out, h0]; simp [reu])
          subst h0
          clear hnx
          go_wp2_with fail
          exact ⟨⟨k + 1, by omega, by go_num, m, HN, ⟨by omega, by omega⟩, by simp⟩, by simp [intOf]; omega⟩
        · have HN : Hid (m + x - 1 = reTo h (k + 1)) := Lib.hid (by rw [hnx, HM.out]; simp [reu, h0]; omega)
          have h0' : (x != 0) = true := by simp [h0]
          clear hnx
          go_wp2_with fail
          exact ⟨⟨k + 1, by omega, by go_num, m + x - 1, HN, ⟨by omega, by omega⟩, by go_num⟩, by simp [intOf]; omega⟩
      · obtain rfl : k = h.g.length := by omega
        go_wp2_with fail
        go_ret
        exact ⟨ret_int (by rw [HR.out, HM.out]), HB.out⟩
theorem goodB_bad {h : Hp} {r : P2} (ho : hpOk h = false) : goodB h r = false := by simp [goodB, inH, ho]
theorem goodB_out {h : Hp} {r : P2} (ho : inB r.a 0 ((h.g.length : Int) - 1) = false) : goodB h r = false := by simp [goodB, inH, ho]
theorem goodB_at {h : Hp} {a b : Int} {k : Nat} {x : Int} {y : Bool} (ho : hpOk h = true) (hk : a = (k : Int)) (hl : k < h.g.length) (hx : h.g[k]? = some x) (hy : h.l[k]? = some y) : goodB h ⟨a, b⟩ = (y && decide (x = b)) ∧ inH h a = true := by
  subst hk
  have hi : inB (k : Int) 0 ((h.g.length : Int) - 1) = true := by simp [inB]; omega
  have h2 : inH h (k : Int) = true := by simp [inH, ho, hi]
  refine ⟨?_, h2⟩
  unfold goodB
  rw [h2]
  simp [List.getD_eq_getElem?_getD, hx, hy]
set_option maxHeartbeats 3200000 in
theorem spec_GoodRef (gv lv : Value) (h : Hp) (r : P2) (w : World) (rd : RdHp w gv lv h) :
    Calls Try.prog 21 #[.agg #[gv, lv], .agg #[.int .i64 r.a, .int .i64 r.b]] w fun e w' => e = .returned (.bool (goodB h r)) ∧ Below w.heap.size w w' := by
  obtain ⟨A, c, B, d, rfl, rfl, hc1, hd1, hc2, hd2⟩ := rd.slices
  obtain ⟨ra, rb⟩ := r
  have hB := ((Below.refl w.heap.size w).alloc (Nat.le_refl _) (.cells #[.slice A h.g.length c, .slice B h.l.length d] 28)).alloc (by simp) (.cells #[.int .i64 ra, .int .i64 rb] 37)
  have k1 := (Bk.new w #[.slice A h.g.length c, .slice B h.l.length d] 28).alloc (.cells #[.int .i64 ra, .int .i64 rb] 37)
  have k2 := Bk.new (w.alloc (.cells #[.slice A h.g.length c, .slice B h.l.length d] 28)) #[.int .i64 ra, .int .i64 rb] 37
  rw [World.size_alloc] at k2
  have r2 := rd.below hB
  obtain ⟨W2, hW2⟩ : ∃ W2, W2 = (w.alloc (.cells #[.slice A h.g.length c, .slice B h.l.length d] 28)).alloc (.cells #[.int .i64 ra, .int .i64 rb] 37) := ⟨_, rfl⟩
  rw [← hW2] at hB k1 k2 r2
  have HW2 := Lib.hid hW2
  have HB := Lib.hid hB
  have hws : w.heap.size ≤ W2.heap.size := hB.size
  have P0 := Past.cell k1.lt (k1.at_ 0 (x := .slice A h.g.length c) rfl).1
  have P1 := Past.cell k1.lt (k1.at_ 1 (x := .slice B h.l.length d) rfl).1
  have P2 := Past.cell k2.lt (k2.at_ 0 (x := .int .i64 ra) rfl).1
  have P3 := Past.cell k2.lt (k2.at_ 1 (x := .int .i64 rb) rfl).1
  have HS : Hid (∀ p : Past W2, Calls Try.prog 10 #[.agg #[.slice A h.g.length c, .slice B h.l.length d]] p.v fun e w' => e = .returned (.bool (hpOk h)) ∧ Below p.v.heap.size p.v w') := Lib.hid fun p => spec_HeapOk _ _ h p.v (r2.below p.hb)
  clear hB hW2 k1 k2 rd
  cases hok : hpOk h
  · have HG : Hid (goodB h ⟨ra, rb⟩ = false) := Lib.hid (goodB_bad hok)
    rw [hok] at HS
    clear hok
    go_enter Try.func21, Try.ntmps21
    go_wp2_with fail
    rw [← HW2.out]
    refine wp_region_past (by kernel_rfl) (by kernel_rfl) ?_
    repeat (go_big_quiet_step (first | (go_at_call 10; exact Calls.past_of (HS.out _))))
    refine wpQuiet_nil ?_
    intro _ hw'
    obtain ⟨pq, rfl⟩ := hw'
    clear P0 P1 P2 P3
    go_wp2_with fail
    go_ret
    exact ⟨ret_bool HG.out.symm, HB.out.trans (pq.hb.mono HB.out.size)⟩
  · rw [hok] at HS
    cases hin : inB ra 0 ((h.g.length : Int) - 1)
    · have HG : Hid (goodB h ⟨ra, rb⟩ = false) := Lib.hid (goodB_out hin)
      have HIT : Hid (∀ W : World, Calls Try.prog 33 #[.int .i64 ra, .int .i64 0, .int .i64 ((h.g.length : Int) - 1)] W fun e w' => e = .returned (.bool false) ∧ Below W.heap.size W w') := Lib.hid fun W => by have hq := toB (l01In ra 0 ((h.g.length : Int) - 1) W); rw [hin] at hq; exact hq
      clear hok hin
      go_enter Try.func21, Try.ntmps21
      go_wp2_with fail
      rw [← HW2.out]
      refine wp_region_past (by kernel_rfl) (by kernel_rfl) ?_
      repeat (go_big_quiet_step (first | (go_at_call 10; exact Calls.past_of (HS.out _)) | (go_at_call 33; exact Calls.past_of (HIT.out _))))
      refine wpQuiet_nil ?_
      intro _ hw'
      obtain ⟨pq, rfl⟩ := hw'
      clear P0 P1 P2 P3
      go_wp2_with fail
      go_ret
      exact ⟨ret_bool HG.out.symm, HB.out.trans (pq.hb.mono HB.out.size)⟩
    · have HIT : Hid (∀ W : World, Calls Try.prog 33 #[.int .i64 ra, .int .i64 0, .int .i64 ((h.g.length : Int) - 1)] W fun e w' => e = .returned (.bool true) ∧ Below W.heap.size W w') := Lib.hid fun W => by have hq := toB (l01In ra 0 ((h.g.length : Int) - 1) W); rw [hin] at hq; exact hq
      have hib := inB_true hin
      obtain ⟨j, hj⟩ : ∃ j : Nat, ra = j := ⟨ra.toNat, by omega⟩
      subst hj
      have hjl : j < h.g.length := by omega
      obtain ⟨-, q3, -⟩ := hpOk_parts hok
      have hjl2 : j < h.l.length := by omega
      obtain ⟨b, o, c', b', o', d', he, he', -, ⟨hb, hb'⟩, hcell, hcell'⟩ := r2.open_ (by omega) (by omega)
      injection he with e1 _ e2
      injection he' with e3 _ e4
      subst e1 e2 e3 e4
      obtain ⟨x, hxk, hx⟩ := int_at hcell hjl
      obtain ⟨y, hyk, hy⟩ := bool_at hcell' hjl2
      have P4 := Past.cell hb hx
      have P5 := Past.cell hb' hy
      have HG := Lib.hid (goodB_at (b := rb) hok rfl hjl hxk.out hyk.out).1
      clear hcell hcell' hok hin hib r2 hx hy hb hb' q3
      cases y
      · go_enter Try.func21, Try.ntmps21
        go_wp2_with fail
        rw [← HW2.out]
        refine wp_region_past (by kernel_rfl) (by kernel_rfl) ?_
        repeat (go_big_quiet_step (first | (go_at_call 10; exact Calls.past_of (HS.out _)) | (go_at_call 33; exact Calls.past_of (HIT.out _))))
        refine wpQuiet_nil ?_
        intro _ hw'
        obtain ⟨pq, rfl⟩ := hw'
        clear P0 P1 P2 P3 P4 P5
        go_wp2_with fail
        go_ret
        exact ⟨ret_bool (by rw [HG.out]; rfl), HB.out.trans (pq.hb.mono HB.out.size)⟩
      · cases hd : decide (x = rb)
        all_goals
          have HE : Hid ((x == rb) = decide (x = rb)) := Lib.hid (by rw [Bool.eq_iff_iff]; simp)
          have he := HE.out
          rw [hd] at he HG
          have HG' : Hid (goodB h ⟨(j : Int), rb⟩ = decide (x = rb)) := Lib.hid (by rw [HG.out, hd]; rfl)
          rw [hd] at HG'
          clear HG HE hd
          go_enter Try.func21, Try.ntmps21
          go_wp2_with fail
          rw [← HW2.out]
          refine wp_region_past (by kernel_rfl) (by kernel_rfl) ?_
          repeat (go_big_quiet_step (first | (go_at_call 10; exact Calls.past_of (HS.out _)) | (go_at_call 33; exact Calls.past_of (HIT.out _))))
          refine wpQuiet_nil ?_
          intro _ hw'
          obtain ⟨pq, rfl⟩ := hw'
          clear P0 P1 P2 P3 P4 P5
          go_wp2_with fail
          go_ret
          exact ⟨ret_bool HG'.out.symm, HB.out.trans (pq.hb.mono HB.out.size)⟩
end Go.Proofs.Ytpenneklpolhgaa
