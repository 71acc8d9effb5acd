/- Contracts of chapter 8's model functions (package spec), first part: HeapOk, the copy of a heap, NewHeap, GoodRef, Reuses. Condition: the heap's rows can be read. -/
import Derived.Test.YtpenneklpolhgaaDoorVH
import Derived.Deep.RegionHeld3
namespace Go.Proofs.YtpenneklpolhgaaDoor
set_option maxRecDepth 20000
set_option linter.unusedSimpArgs false
set_option linter.unusedVariables false
open Go.ChangeShapes Go.WideShapes Go.ChangeAt Go.RowKit
set_option linter.unusedVariables false
set_option maxHeartbeats 1600000 in
theorem spec_HeapOk (gv lv : Value) (h : Hp) (w : World) (r : RdHp w gv lv h) :
    Calls Tryd.prog 34 #[.agg #[gv, lv]] w fun e w' => e = .returned (.bool (hpOk h)) ∧ Below w.heap.size w w' := by
  obtain ⟨A, c, B, d, rfl, rfl, hc1, hd1, hc2, hd2⟩ := r.slices
  have hB := (Below.refl w.heap.size w).alloc (Nat.le_refl _) (.cells #[.slice A h.g.length c, .slice B h.l.length d] 29)
  cases hin : inB h.g.length 1 24
  · have HO := Lib.hid (hpOk_size hin)
    go_enter Tryd.func34, Tryd.ntmps34
    go_wp2_with (go_at_call 35; refine (l01In _ _ _ _).mono ?_; rintro e w' ⟨rfl, rfl⟩)
    go_ret
    exact ⟨ret_bool HO.out.symm, hB⟩
  · by_cases hlen : h.l.length = h.g.length
    · have HA := Lib.hid (hpOk_all hin hlen)
      have h1 := inB_true hin
      have hlen' : h.l.length ≤ h.g.length ∧ h.g.length ≤ h.l.length := by omega
      have hne : ((h.l.length : Int) != (h.g.length : Int)) = false := by simp [hlen]
      obtain ⟨b, o, c', b', o', d', he, he', -, ⟨hb, hb'⟩, hcell, hcell'⟩ := r.open_ (by omega) (by omega)
      injection he with e1 _ e2
      injection he' with e3 _ e4
      subst e1 e2 e3 e4
      clear hlen r
      go_enter Tryd.func34, Tryd.ntmps34
      go_wp2_with (go_at_call 35; refine (l01In _ _ _ _).mono ?_; rintro e w' ⟨rfl, rfl⟩)
      go_loop [3] (fun i => ∃ k : Nat, k ≤ h.g.length ∧ i = .int .i64 k ∧ Hid (hpTo h k = true)) (fun i => h.g.length - (intOf i).toNat)
      case atStart => exact ⟨0, Nat.zero_le _, rfl, Lib.hid (by simp [hpTo])⟩
      case round =>
        obtain ⟨k, hk, rfl, HT⟩ := hrel
        by_cases hlt : k < h.g.length
        · obtain ⟨x, hxk, hx⟩ := int_at hcell hlt
          obtain ⟨y, hyk, hy⟩ := bool_at (k := k) hcell' (by omega)
          have hkl : k < h.l.length := by omega
          clear hcell hcell'
          cases hv : inB x 0 1000000
          · have HO := Lib.hid (hpTo_not hlt hxk.out hyk.out (by simp [gOk, hv]))
            go_wp2_with (go_at_call 35; refine (l01In _ _ _ _).mono ?_; rintro e w' ⟨rfl, rfl⟩)
            go_ret
            exact ⟨ret_bool (by rw [HA.out, HO.out]), hB⟩
          · cases y
            · have HO := Lib.hid (hpTo_succ HT.out hxk.out hyk.out (by simp [gOk, hv]))
              go_wp2_with (go_at_call 35; refine (l01In _ _ _ _).mono ?_; rintro e w' ⟨rfl, rfl⟩)
              exact ⟨⟨k + 1, by omega, by go_num, HO⟩, by simp [intOf]; omega⟩
            · by_cases h0 : x = 0
              · have HO := Lib.hid (hpTo_not hlt hxk.out hyk.out (by simp [gOk, h0]))
                subst h0
                go_wp2_with (go_at_call 35; refine (l01In _ _ _ _).mono ?_; rintro e w' ⟨rfl, rfl⟩)
                go_ret
                exact ⟨ret_bool (by rw [HA.out, HO.out]), hB⟩
              · have HO := Lib.hid (hpTo_succ HT.out hxk.out hyk.out (by simp [gOk, hv, h0]))
                have h0' : (x == 0) = false := by simp [h0]
                go_wp2_with (go_at_call 35; refine (l01In _ _ _ _).mono ?_; rintro e w' ⟨rfl, rfl⟩)
                exact ⟨⟨k + 1, by omega, by go_num, HO⟩, by simp [intOf]; omega⟩
        · obtain rfl : k = h.g.length := by omega
          go_wp2_with fail
          go_ret
          exact ⟨ret_bool (by rw [HA.out, HT.out]), hB⟩
    · have HO := Lib.hid (hpOk_len hlen)
      have hne : ((h.l.length : Int) != (h.g.length : Int)) = true := by simp; omega
      go_enter Tryd.func34, Tryd.ntmps34
      go_wp2_with (go_at_call 35; refine (l01In _ _ _ _).mono ?_; rintro e w' ⟨rfl, rfl⟩)
      go_ret
      exact ⟨ret_bool HO.out.symm, hB⟩
theorem goodB_bad {h : Hp} {r : P2} (ho : hpOk h = false) : goodB h r = false := by simp [goodB, inH, ho]
theorem goodB_out {h : Hp} {r : P2} (ho : inB r.a 0 ((h.g.length : Int) - 1) = false) : goodB h r = false := by simp [goodB, inH, ho]
theorem goodB_at {h : Hp} {a b : Int} {k : Nat} {x : Int} {y : Bool} (ho : hpOk h = true) (hk : a = (k : Int)) (hl : k < h.g.length) (hx : h.g[k]? = some x) (hy : h.l[k]? = some y) : goodB h ⟨a, b⟩ = (y && decide (x = b)) ∧ inH h a = true := by
  subst hk
  have hi : inB (k : Int) 0 ((h.g.length : Int) - 1) = true := by simp [inB]; omega
  have h2 : inH h (k : Int) = true := by simp [inH, ho, hi]
  refine ⟨?_, h2⟩
  unfold goodB
  rw [h2]
  simp [List.getD_eq_getElem?_getD, hx, hy]
set_option maxHeartbeats 3200000 in
theorem spec_GoodRef (gv lv : Value) (h : Hp) (r : P2) (w : World) (rd : RdHp w gv lv h) :
    Calls Tryd.prog 36 #[.agg #[gv, lv], .agg #[.int .i64 r.a, .int .i64 r.b]] w fun e w' => e = .returned (.bool (goodB h r)) ∧ Below w.heap.size w w' := by
  obtain ⟨A, c, B, d, rfl, rfl, hc1, hd1, hc2, hd2⟩ := rd.slices
  obtain ⟨ra, rb⟩ := r
  have hB := ((Below.refl w.heap.size w).alloc (Nat.le_refl _) (.cells #[.slice A h.g.length c, .slice B h.l.length d] 29)).alloc (by simp) (.cells #[.int .i64 ra, .int .i64 rb] 33)
  have k1 := (Bk.new w #[.slice A h.g.length c, .slice B h.l.length d] 29).alloc (.cells #[.int .i64 ra, .int .i64 rb] 33)
  have k2 := Bk.new (w.alloc (.cells #[.slice A h.g.length c, .slice B h.l.length d] 29)) #[.int .i64 ra, .int .i64 rb] 33
  rw [World.size_alloc] at k2
  have r2 := rd.below hB
  obtain ⟨W2, hW2⟩ : ∃ W2, W2 = (w.alloc (.cells #[.slice A h.g.length c, .slice B h.l.length d] 29)).alloc (.cells #[.int .i64 ra, .int .i64 rb] 33) := ⟨_, rfl⟩
  rw [← hW2] at hB k1 k2 r2
  have HW2 := Lib.hid hW2
  have HB := Lib.hid hB
  have hws : w.heap.size ≤ W2.heap.size := hB.size
  have P0 := Past.cell k1.lt (k1.at_ 0 (x := .slice A h.g.length c) rfl).1
  have P1 := Past.cell k1.lt (k1.at_ 1 (x := .slice B h.l.length d) rfl).1
  have P2 := Past.cell k2.lt (k2.at_ 0 (x := .int .i64 ra) rfl).1
  have P3 := Past.cell k2.lt (k2.at_ 1 (x := .int .i64 rb) rfl).1
  have HS : Hid (∀ p : Past W2, Calls Tryd.prog 34 #[.agg #[.slice A h.g.length c, .slice B h.l.length d]] p.v fun e w' => e = .returned (.bool (hpOk h)) ∧ Below p.v.heap.size p.v w') := Lib.hid fun p => spec_HeapOk _ _ h p.v (r2.below p.hb)
  clear hB hW2 k1 k2 rd
  cases hok : hpOk h
  · have HG : Hid (goodB h ⟨ra, rb⟩ = false) := Lib.hid (goodB_bad hok)
    rw [hok] at HS
    clear hok
    go_enter Tryd.func36, Tryd.ntmps36
    go_wp2_with fail
    rw [← HW2.out]
    refine wp_region_past (by kernel_rfl) (by kernel_rfl) ?_
    repeat (go_big_quiet_step (first | (go_at_call 34; exact Calls.past_of (HS.out _))))
    refine wpQuiet_nil ?_
    intro _ hw'
    obtain ⟨pq, rfl⟩ := hw'
    clear P0 P1 P2 P3
    go_wp2_with fail
    go_ret
    exact ⟨ret_bool HG.out.symm, HB.out.trans (pq.hb.mono HB.out.size)⟩
  · rw [hok] at HS
    cases hin : inB ra 0 ((h.g.length : Int) - 1)
    · have HG : Hid (goodB h ⟨ra, rb⟩ = false) := Lib.hid (goodB_out hin)
      have HIT : Hid (∀ W : World, Calls Tryd.prog 35 #[.int .i64 ra, .int .i64 0, .int .i64 ((h.g.length : Int) - 1)] W fun e w' => e = .returned (.bool false) ∧ Below W.heap.size W w') := Lib.hid fun W => by have hq := toB (l01In ra 0 ((h.g.length : Int) - 1) W); rw [hin] at hq; exact hq
      clear hok hin
      go_enter Tryd.func36, Tryd.ntmps36
      go_wp2_with fail
      rw [← HW2.out]
      refine wp_region_past (by kernel_rfl) (by kernel_rfl) ?_
      repeat (go_big_quiet_step (first | (go_at_call 34; exact Calls.past_of (HS.out _)) | (go_at_call 35; exact Calls.past_of (HIT.out _))))
      refine wpQuiet_nil ?_
      intro _ hw'
      obtain ⟨pq, rfl⟩ := hw'
      clear P0 P1 P2 P3
      go_wp2_with fail
      go_ret
      exact ⟨ret_bool HG.out.symm, HB.out.trans (pq.hb.mono HB.out.size)⟩
    · have HIT : Hid (∀ W : World, Calls Tryd.prog 35 #[.int .i64 ra, .int .i64 0, .int .i64 ((h.g.length : Int) - 1)] W fun e w' => e = .returned (.bool true) ∧ Below W.heap.size W w') := Lib.hid fun W => by have hq := toB (l01In ra 0 ((h.g.length : Int) - 1) W); rw [hin] at hq; exact hq
      have hib := inB_true hin
      obtain ⟨j, hj⟩ : ∃ j : Nat, ra = j := ⟨ra.toNat, by omega⟩
      subst hj
      have hjl : j < h.g.length := by omega
      obtain ⟨-, q3, -⟩ := hpOk_parts hok
      have hjl2 : j < h.l.length := by omega
      obtain ⟨b, o, c', b', o', d', he, he', -, ⟨hb, hb'⟩, hcell, hcell'⟩ := r2.open_ (by omega) (by omega)
      injection he with e1 _ e2
      injection he' with e3 _ e4
      subst e1 e2 e3 e4
      obtain ⟨x, hxk, hx⟩ := int_at hcell hjl
      obtain ⟨y, hyk, hy⟩ := bool_at hcell' hjl2
      have P4 := Past.cell hb hx
      have P5 := Past.cell hb' hy
      have HG := Lib.hid (goodB_at (b := rb) hok rfl hjl hxk.out hyk.out).1
      clear hcell hcell' hok hin hib r2 hx hy hb hb' q3
      cases y
      · go_enter Tryd.func36, Tryd.ntmps36
        go_wp2_with fail
        rw [← HW2.out]
        refine wp_region_past (by kernel_rfl) (by kernel_rfl) ?_
        repeat (go_big_quiet_step (first | (go_at_call 34; exact Calls.past_of (HS.out _)) | (go_at_call 35; exact Calls.past_of (HIT.out _))))
        refine wpQuiet_nil ?_
        intro _ hw'
        obtain ⟨pq, rfl⟩ := hw'
        clear P0 P1 P2 P3 P4 P5
        go_wp2_with fail
        go_ret
        exact ⟨ret_bool (by rw [HG.out]; rfl), HB.out.trans (pq.hb.mono HB.out.size)⟩
      · cases hd : decide (x = rb)
        all_goals
          have HE : Hid ((x == rb) = decide (x = rb)) := Lib.hid (by rw [Bool.eq_iff_iff]; simp)
          have he := HE.out
          rw [hd] at he HG
          have HG' : Hid (goodB h ⟨(j : Int), rb⟩ = decide (x = rb)) := Lib.hid (by rw [HG.out, hd]; rfl)
          rw [hd] at HG'
          clear HG HE hd
          go_enter Tryd.func36, Tryd.ntmps36
          go_wp2_with fail
          rw [← HW2.out]
          refine wp_region_past (by kernel_rfl) (by kernel_rfl) ?_
          repeat (go_big_quiet_step (first | (go_at_call 34; exact Calls.past_of (HS.out _)) | (go_at_call 35; exact Calls.past_of (HIT.out _))))
          refine wpQuiet_nil ?_
          intro _ hw'
          obtain ⟨pq, rfl⟩ := hw'
          clear P0 P1 P2 P3 P4 P5
          go_wp2_with fail
          go_ret
          exact ⟨ret_bool HG'.out.symm, HB.out.trans (pq.hb.mono HB.out.size)⟩
end Go.Proofs.YtpenneklpolhgaaDoor
