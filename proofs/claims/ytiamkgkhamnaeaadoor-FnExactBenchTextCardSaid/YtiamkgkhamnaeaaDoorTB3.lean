/- The text of a bench: the contract of BenchText (package spec). Conditions: the bench's rows can be read; lengths that a law bounds. -/
import Derived.Test.YtiamkgkhamnaeaaDoorTB2
namespace Go.Proofs.YtiamkgkhamnaeaaDoor
set_option maxRecDepth 20000
set_option linter.unusedSimpArgs false
set_option linter.unusedVariables false
open Go.ChangeShapes Go.WideShapes Go.ChangeAt Go.RowKit
set_option linter.unusedVariables false
theorem txt_len {name : List UInt8} {xs : List Int} {k n : Nat} (hr : ∀ x ∈ xs, 0 ≤ x ∧ x ≤ 61) (hl : xs.length ≤ 60) (hn : name.length ≤ 30000) : (nmT name ((xs.take k).map Lib.itoa)).length ≤ 40000 := by
  have := nmT_len (ws := (xs.take k).map Lib.itoa) (name := name) (m := 20) (fun t ht => by obtain ⟨x, hx', rfl⟩ := List.mem_map.1 ht; exact digs_len (by have := hr x (List.mem_of_mem_take hx'); omega))
  rw [List.length_map, List.length_take] at this
  omega
theorem txt_len' {name : List UInt8} {xs : List Int} {n : Nat} (hr : ∀ x ∈ xs, 0 ≤ x ∧ x ≤ 61) (hl : xs.length ≤ 60) (hn : name.length ≤ n) : (nmT name (xs.map Lib.itoa)).length ≤ n + 1300 := by
  have := nmT_len (ws := xs.map Lib.itoa) (name := name) (m := 20) (fun t ht => by obtain ⟨x, hx', rfl⟩ := List.mem_map.1 ht; exact digs_len (by have := hr x hx'; omega))
  rw [List.length_map] at this
  omega
theorem txh_len' {name : List UInt8} {xs : List P2} {n : Nat} (hr : ∀ e ∈ xs, (0 ≤ e.a ∧ e.a ≤ 4) ∧ 0 ≤ e.b ∧ e.b ≤ 61) (hl : xs.length ≤ 300) (hn : name.length ≤ n) : (nmT name (xs.map holdT)).length ≤ n + 12700 := by
  have := nmT_len (ws := xs.map holdT) (name := name) (m := 41) (fun t ht => by obtain ⟨x, hx', rfl⟩ := List.mem_map.1 ht; exact holdT_len (by have := hr x hx'; omega))
  rw [List.length_map] at this
  omega
theorem txh_len {name : List UInt8} {xs : List P2} {k : Nat} (hr : ∀ e ∈ xs, (0 ≤ e.a ∧ e.a ≤ 4) ∧ 0 ≤ e.b ∧ e.b ≤ 61) (hl : xs.length ≤ 300) (hn : name.length ≤ 20000) : (nmT name ((xs.take k).map holdT)).length ≤ 40000 := by
  have := txh_len' (name := name) (xs := xs.take k) (fun e he => hr e (List.mem_of_mem_take he)) (by rw [List.length_take]; omega) hn
  omega
set_option maxRecDepth 20000 in
set_option maxHeartbeats 3200000 in
theorem spec_BenchText (a b c d : Value) (B : Bn) (w : World) (r : RdBn w a b c d B) (hsz : szBn B ≤ 16777216) :
    Calls Tryd.prog 5 #[.agg #[a, b, c, d, .int .i64 B.n]] w fun e w' => e = .returned (str (benchTextF B)) ∧ Below w.heap.size w w' := by
  obtain ⟨A1, c1, A2, c2, A3, c3, A4, c4, ⟨rfl, rfl, rfl, rfl⟩, -, -⟩ := r.slices
  have hB0 := (Below.refl w.heap.size w).alloc (Nat.le_refl _) (.cells #[.slice A1 B.l.length c1, .slice A2 B.h.length c2, .slice A3 B.w.length c3, .slice A4 B.f.length c4, .int .i64 B.n] 30)
  have k0 := Bk.new w #[.slice A1 B.l.length c1, .slice A2 B.h.length c2, .slice A3 B.w.length c3, .slice A4 B.f.length c4, .int .i64 B.n] 30
  have hC := spec_BenchOk _ _ _ _ B _ (r.below hB0) hsz
  have HRD := Lib.hid r
  cases hok : bnOk B
  · rw [hok] at hC
    have HC := Lib.hid hC
    have HF : Hid (benchTextF B = []) := Lib.hid (by simp [benchTextF, hok])
    clear hC hok r
    go_enter Tryd.func5, Tryd.ntmps5
    go_wp2_with (go_at_call 11; refine HC.out.mono ?_; rintro e w1 ⟨rfl, hb1⟩)
    go_ret
    exact ⟨ret_str HF.out.symm, hB0.trans (hb1.mono hB0.size)⟩
  · rw [hok] at hC
    have HC := Lib.hid hC
    have HF : Hid (benchTextF B = benchT B) := Lib.hid (by simp [benchTextF, hok])
    have HRN := Lib.hid (bench_rng hok)
    have HSM := Lib.hid (bnOk_small (bnOk_iff.1 hok))
    have HSH := Lib.hid (bnOk_held (bnOk_iff.1 hok))
    clear hC hok r hsz
    go_enter Tryd.func5, Tryd.ntmps5
    go_upto_region 3 with (go_at_call 11; refine HC.out.mono ?_; rintro e w1 ⟨rfl, hb1⟩; have k1 := k0.below hb1 k0.lt)
    have HB1 := Lib.hid (hB0.trans (hb1.mono hB0.size))
    have hk1 := k1.lt
    have HP : Hid ((∀ W : World, Below w1.heap.size w1 W → W.cell? ⟨w.heap.size, 0, none⟩ = some (.slice A1 B.l.length c1)) ∧ (∀ W : World, Below w1.heap.size w1 W → W.cell? ⟨w.heap.size, 1, none⟩ = some (.slice A2 B.h.length c2)) ∧ (∀ W : World, Below w1.heap.size w1 W → W.cell? ⟨w.heap.size, 2, none⟩ = some (.slice A3 B.w.length c3)) ∧ ∀ W : World, Below w1.heap.size w1 W → W.cell? ⟨w.heap.size, 3, none⟩ = some (.slice A4 B.f.length c4)) :=
      Lib.hid ⟨fun W hW => (hW.cell (p := ⟨w.heap.size, 0, none⟩) hk1).trans (k1.at_ 0 (x := .slice A1 B.l.length c1) rfl).1, fun W hW => (hW.cell (p := ⟨w.heap.size, 1, none⟩) hk1).trans (k1.at_ 1 (x := .slice A2 B.h.length c2) rfl).1, fun W hW => (hW.cell (p := ⟨w.heap.size, 2, none⟩) hk1).trans (k1.at_ 2 (x := .slice A3 B.w.length c3) rfl).1, fun W hW => (hW.cell (p := ⟨w.heap.size, 3, none⟩) hk1).trans (k1.at_ 3 (x := .slice A4 B.f.length c4) rfl).1⟩
    have HM1 : Hid (sLinked.length ≤ 8) := Lib.hid (by decide)
    clear hb1 k1 k0 hB0
    go_wp2_with fail
    go_loopw [3, 4] (fun o i wr => ∃ (k : Nat) (L : List UInt8), k ≤ B.l.length ∧ i = .int .i64 k ∧ o = str L ∧ Hid (L = nmT sLinked ((B.l.take k).map Lib.itoa)) ∧ Below w1.heap.size w1 wr) (fun _ i _ => B.l.length - (intOf i).toNat)
    case atStart => exact ⟨0, sLinked, Nat.zero_le _, rfl, rfl, Lib.hid (by rw [List.take_zero, List.map_nil, nmT_nil]), Below.refl _ _⟩
    case round =>
      obtain ⟨k, L, hk, rfl, rfl, HL, hB⟩ := hrel
      have hp := HP.out.1 wr hB
      have hl1 : L.length ≤ 40000 := by
        rw [HL.out]
        exact txt_len (n := 0) HRN.out.1 HSM.out.1 (by have := HM1.out; omega)
      have hq := HSM.out.1
      by_cases hlt : k < B.l.length
      · obtain ⟨A, cc, he, -, -, -, hr⟩ := HRD.out.l
        injection he with e1 _ e2
        subst e1 e2
        obtain ⟨b, o, rfl, hb, hcell⟩ := hr (by omega)
        obtain ⟨x, hxk, hx⟩ := int_at hcell hlt
        have hWB := HB1.out.trans (hB.mono HB1.out.size)
        have hx' := (hWB.cell (p := ⟨b, o + k, none⟩) hb).trans hx
        have hxr : -9223372036854775808 ≤ x ∧ x ≤ 9223372036854775807 := by have := HRN.out.1 x (List.mem_of_getElem? hxk.out); omega
        have hl2 := digs_len hxr
        have HN : Hid (nmT sLinked ((B.l.take (k + 1)).map Lib.itoa) = L ++ [32] ++ Lib.itoa x) := Lib.hid (by
          rw [List.take_add_one, hxk.out, HL.out]
          simp only [Option.toList_some, List.map_append, List.map_cons, List.map_nil]
          exact nmT_snoc _ _ _)
        clear hcell hr hx hWB hxk
        go_wp2_with (go_at_call 12; refine (l01Num x _ hxr).mono ?_; rintro e w2 ⟨rfl, hb2⟩)
        refine ⟨⟨k + 1, L ++ [32] ++ Lib.itoa x, by omega, by go_num, ?_, Lib.hid HN.out.symm, hB.trans (hb2.mono hB.size)⟩, by simp [intOf]; omega⟩
        exact congrArg Value.string ((congrArg (· ++ _) (bytes_app L [32])).trans (bytes_app _ _))
      · obtain rfl : k = B.l.length := by omega
        rw [List.take_length] at HL
        obtain ⟨NB, HE2⟩ : ∃ N, Hid (N = nmT sLinked (B.l.map Lib.itoa) ++ [32, 104, 101, 108, 100]) := ⟨_, Lib.hid rfl⟩
        have HM2 : Hid (NB.length ≤ 2000) := Lib.hid (by
          rw [HE2.out, List.length_append]
          have := txt_len' HRN.out.1 HSM.out.1 HM1.out
          have e : ([32, 104, 101, 108, 100] : List UInt8).length ≤ 8 := by decide
          omega)
        have HNB : Hid (Value.string ((⟨L.toArray⟩ : ByteArray) ++ ⟨#[32, 104, 101, 108, 100]⟩) = str NB) := Lib.hid (by
          rw [HE2.out, ← HL.out]
          exact congrArg Value.string (bytes_app L [32, 104, 101, 108, 100]))
        go_wp2_with fail
        go_loopw [3, 5] (fun o i wr => ∃ (k : Nat) (L : List UInt8), k ≤ B.h.length ∧ i = .int .i64 k ∧ o = str L ∧ Hid (L = nmT NB ((B.h.take k).map holdT)) ∧ Below w1.heap.size w1 wr) (fun _ i _ => B.h.length - (intOf i).toNat)
        case atStart => exact ⟨0, NB, Nat.zero_le _, rfl, HNB.out, Lib.hid (by rw [List.take_zero, List.map_nil, nmT_nil]), hB⟩
        case round =>
          clear hB hp hl1 HL hq
          obtain ⟨k, L, hk, rfl, rfl, HL, hB⟩ := hrel
          have hp := HP.out.2.1 wr hB
          have hl1 : L.length ≤ 40000 := by
            rw [HL.out]
            exact txh_len HRN.out.2.2.2 HSH.out (by have := HM2.out; omega)
          have hq := HSH.out
          by_cases hlt : k < B.h.length
          · obtain ⟨A, cc, he, -, -, -, hr⟩ := HRD.out.h
            injection he with e1 _ e2
            subst e1 e2
            obtain ⟨b, o, rfl, hb, hcell⟩ := hr (by omega)
            have hWB := HB1.out.trans (hB.mono HB1.out.size)
            obtain ⟨x, hxk, hx0, hx1⟩ := p2_at (fun j u hu => (hWB.cell (p := ⟨b, o + j, none⟩) hb).trans (hcell j u hu)) hlt
            have hbw : b < wr.heap.size := Nat.lt_of_lt_of_le hb hWB.size
            have hxr := HRN.out.2.2.2 x (List.mem_of_getElem? hxk.out)
            have hxa : -9223372036854775808 ≤ x.a ∧ x.a ≤ 9223372036854775807 := by omega
            have hxb : -9223372036854775808 ≤ x.b ∧ x.b ≤ 9223372036854775807 := by omega
            have HCA := Lib.hid (fun W => l01Num x.a W hxa)
            have HCB := Lib.hid (fun W => l01Num x.b W hxb)
            have hla := digs_len hxa
            have hlb := digs_len hxb
            have HN : Hid (nmT NB ((B.h.take (k + 1)).map holdT) = L ++ [32] ++ (Lib.itoa x.a ++ [58] ++ Lib.itoa x.b)) := Lib.hid (by
              rw [List.take_add_one, hxk.out, HL.out]
              simp only [Option.toList_some, List.map_append, List.map_cons, List.map_nil]
              exact nmT_snoc _ _ _)
            obtain ⟨ta, hta⟩ : ∃ ta, Lib.itoa x.a = ta := ⟨_, rfl⟩
            obtain ⟨tb, htb⟩ : ∃ tb, Lib.itoa x.b = tb := ⟨_, rfl⟩
            rw [hta] at HCA hla HN
            rw [htb] at HCB hlb HN
            have hkw : w.heap.size < wr.heap.size := Nat.lt_of_lt_of_le hk1 hB.size
            have p1 := fun q : Past wr => Past.cell hkw hp q
            have s0 := fun q : Past wr => Past.cell hbw hx0 q
            have s1 := fun q : Past wr => Past.cell hbw hx1 q
            have q0 : ¬ (9223372036854775807 < L.length + 1) := by omega
            have q1 : ¬ (9223372036854775807 < L.length + 1 + ta.length) := by omega
            have q2 : ¬ (9223372036854775807 < L.length + 1 + ta.length + 1) := by omega
            have q3 : ¬ (9223372036854775807 < L.length + 1 + ta.length + 1 + tb.length) := by omega
            clear hcell hr hWB hxk hta htb hxa hxb hxr hla hlb hl1
            go_upto_region 12 with fail
            refine wp_region_two 19 19 (fun w' => ∃ q : Past wr, w' = q.v) (fun _ => True) (by kernel_rfl) ?_
            obtain ⟨w0, hw0⟩ : ∃ w0, w0 = wr.drew := ⟨_, rfl⟩
            have T0 : Hid (Below wr.heap.size wr w0) := Lib.hid (by rw [hw0]; exact (Below.refl _ _).drew)
            rw [← hw0]
            clear hw0
            refine wpAnyX_pass (C := (fun w' => ∃ q : Past wr, w' = q.v)) (some false) [true, true, true, true, true, true, true, true, false, false, false, true, true, true, true, true, true] rfl (by kernel_rfl) (fun _ _ t _ _ h => by cases t <;> exact h) ⟨fun _ => ⟨⟨w0, T0.out⟩, rfl⟩, fun _ => trivial⟩ ?_
            simp only [keepOps]
            repeat (go_big_quiet_step (fail))
            refine wpQuiet_nil ?_
            refine wpAnyX_one 8 rfl (by kernel_rfl) (by kernel_rfl) ?_
            go_wp2_with fail
            refine (HCA.out w0).mono ?_
            rintro e w2 ⟨rfl, hb2⟩
            have T2 := Lib.hid (T0.out.trans (hb2.mono T0.out.size))
            go_wp2_with fail
            refine ⟨⟨fun _ => ⟨⟨w2, T2.out⟩, rfl⟩, fun _ => trivial⟩, ?_⟩
            refine wpAnyX_pass (C := (fun w' => ∃ q : Past wr, w' = q.v)) (some false) [false, false, false, false, false, false, false, false, false, true, true] rfl (by kernel_rfl) (fun _ _ t _ _ h => by cases t <;> exact h) ⟨fun _ => ⟨⟨w2, T2.out⟩, rfl⟩, fun _ => trivial⟩ ?_
            simp only [keepOps]
            repeat (go_big_quiet_step (fail))
            refine wpQuiet_nil ?_
            refine wpAnyX_one 17 rfl (by kernel_rfl) (by kernel_rfl) ?_
            go_wp2_with fail
            refine (HCB.out w2).mono ?_
            rintro e w3 ⟨rfl, hb3⟩
            have T3 := Lib.hid (T2.out.trans (hb3.mono T2.out.size))
            go_wp2_with fail
            refine ⟨⟨fun _ => ⟨⟨w3, T3.out⟩, rfl⟩, fun _ => trivial⟩, ?_⟩
            refine wpAnyX_one 18 rfl (by kernel_rfl) (by kernel_rfl) ?_
            go_wp2_with fail
            refine ⟨⟨fun _ => ⟨⟨w3, T3.out⟩, rfl⟩, fun _ => trivial⟩, ?_⟩
            refine wpAnyX_one 19 rfl (by kernel_rfl) (by kernel_rfl) ?_
            go_wp2_with fail
            refine ⟨⟨fun h => absurd (show true = false from h) (by decide), fun _ => trivial⟩, ?_⟩
            refine wpAnyX_done (by kernel_rfl) ?_
            try dsimp only
            go_wp2_with fail
            refine ⟨⟨k + 1, L ++ [32] ++ (ta ++ [58] ++ tb), by omega, by go_num, ?_, Lib.hid HN.out.symm, hB.trans (T3.out.mono hB.size)⟩, by simp [intOf]; omega⟩
            simp [str, bytes_app]
          · obtain rfl : k = B.h.length := by omega
            rw [List.take_length] at HL
            obtain ⟨NC, HE3⟩ : ∃ N, Hid (N = nmT NB (B.h.map holdT) ++ [32, 119, 97, 105, 116, 105, 110, 103]) := ⟨_, Lib.hid rfl⟩
            have HM3 : Hid (NC.length ≤ 20000) := Lib.hid (by
              rw [HE3.out, List.length_append]
              have := txh_len' HRN.out.2.2.2 HSH.out HM2.out
              have e : ([32, 119, 97, 105, 116, 105, 110, 103] : List UInt8).length ≤ 8 := by decide
              omega)
            have HNC : Hid (Value.string ((⟨L.toArray⟩ : ByteArray) ++ ⟨#[32, 119, 97, 105, 116, 105, 110, 103]⟩) = str NC) := Lib.hid (by
              rw [HE3.out, ← HL.out]
              exact congrArg Value.string (bytes_app L [32, 119, 97, 105, 116, 105, 110, 103]))
            go_wp2_with fail
            go_loopw [3, 6] (fun o i wr => ∃ (k : Nat) (L : List UInt8), k ≤ B.w.length ∧ i = .int .i64 k ∧ o = str L ∧ Hid (L = nmT NC ((B.w.take k).map Lib.itoa)) ∧ Below w1.heap.size w1 wr) (fun _ i _ => B.w.length - (intOf i).toNat)
            case atStart => exact ⟨0, NC, Nat.zero_le _, rfl, HNC.out, Lib.hid (by rw [List.take_zero, List.map_nil, nmT_nil]), hB⟩
            case round =>
              clear hB hp hl1 HL hq
              obtain ⟨k, L, hk, rfl, rfl, HL, hB⟩ := hrel
              have hp := HP.out.2.2.1 wr hB
              have hl1 : L.length ≤ 40000 := by
                rw [HL.out]
                exact txt_len (n := 0) HRN.out.2.1 HSM.out.2.1 (by have := HM3.out; omega)
              have hq := HSM.out.2.1
              by_cases hlt : k < B.w.length
              · obtain ⟨A, cc, he, -, -, -, hr⟩ := HRD.out.q
                injection he with e1 _ e2
                subst e1 e2
                obtain ⟨b, o, rfl, hb, hcell⟩ := hr (by omega)
                obtain ⟨x, hxk, hx⟩ := int_at hcell hlt
                have hWB := HB1.out.trans (hB.mono HB1.out.size)
                have hx' := (hWB.cell (p := ⟨b, o + k, none⟩) hb).trans hx
                have hxr : -9223372036854775808 ≤ x ∧ x ≤ 9223372036854775807 := by have := HRN.out.2.1 x (List.mem_of_getElem? hxk.out); omega
                have hl2 := digs_len hxr
                have HN : Hid (nmT NC ((B.w.take (k + 1)).map Lib.itoa) = L ++ [32] ++ Lib.itoa x) := Lib.hid (by
                  rw [List.take_add_one, hxk.out, HL.out]
                  simp only [Option.toList_some, List.map_append, List.map_cons, List.map_nil]
                  exact nmT_snoc _ _ _)
                clear hcell hr hx hWB hxk
                go_wp2_with (go_at_call 12; refine (l01Num x _ hxr).mono ?_; rintro e w2 ⟨rfl, hb2⟩)
                refine ⟨⟨k + 1, L ++ [32] ++ Lib.itoa x, by omega, by go_num, ?_, Lib.hid HN.out.symm, hB.trans (hb2.mono hB.size)⟩, by simp [intOf]; omega⟩
                exact congrArg Value.string ((congrArg (· ++ _) (bytes_app L [32])).trans (bytes_app _ _))
              · obtain rfl : k = B.w.length := by omega
                rw [List.take_length] at HL
                obtain ⟨ND, HE4⟩ : ∃ N, Hid (N = nmT NC (B.w.map Lib.itoa) ++ [32, 102, 114, 101, 101, 100]) := ⟨_, Lib.hid rfl⟩
                have HM4 : Hid (ND.length ≤ 30000) := Lib.hid (by
                  rw [HE4.out, List.length_append]
                  have := txt_len' HRN.out.2.1 HSM.out.2.1 HM3.out
                  have e : ([32, 102, 114, 101, 101, 100] : List UInt8).length ≤ 8 := by decide
                  omega)
                have HND : Hid (Value.string ((⟨L.toArray⟩ : ByteArray) ++ ⟨#[32, 102, 114, 101, 101, 100]⟩) = str ND) := Lib.hid (by
                  rw [HE4.out, ← HL.out]
                  exact congrArg Value.string (bytes_app L [32, 102, 114, 101, 101, 100]))
                go_wp2_with fail
                go_loopw [3, 7] (fun o i wr => ∃ (k : Nat) (L : List UInt8), k ≤ B.f.length ∧ i = .int .i64 k ∧ o = str L ∧ Hid (L = nmT ND ((B.f.take k).map Lib.itoa)) ∧ Below w1.heap.size w1 wr) (fun _ i _ => B.f.length - (intOf i).toNat)
                case atStart => exact ⟨0, ND, Nat.zero_le _, rfl, HND.out, Lib.hid (by rw [List.take_zero, List.map_nil, nmT_nil]), hB⟩
                case round =>
                  clear hB hp hl1 HL hq
                  obtain ⟨k, L, hk, rfl, rfl, HL, hB⟩ := hrel
                  have hp := HP.out.2.2.2 wr hB
                  have hl1 : L.length ≤ 40000 := by
                    rw [HL.out]
                    exact txt_len (n := 0) HRN.out.2.2.1 HSM.out.2.2 (by have := HM4.out; omega)
                  have hq := HSM.out.2.2
                  by_cases hlt : k < B.f.length
                  · obtain ⟨A, cc, he, -, -, -, hr⟩ := HRD.out.f
                    injection he with e1 _ e2
                    subst e1 e2
                    obtain ⟨b, o, rfl, hb, hcell⟩ := hr (by omega)
                    obtain ⟨x, hxk, hx⟩ := int_at hcell hlt
                    have hWB := HB1.out.trans (hB.mono HB1.out.size)
                    have hx' := (hWB.cell (p := ⟨b, o + k, none⟩) hb).trans hx
                    have hxr : -9223372036854775808 ≤ x ∧ x ≤ 9223372036854775807 := by have := HRN.out.2.2.1 x (List.mem_of_getElem? hxk.out); omega
                    have hl2 := digs_len hxr
                    have HN : Hid (nmT ND ((B.f.take (k + 1)).map Lib.itoa) = L ++ [32] ++ Lib.itoa x) := Lib.hid (by
                      rw [List.take_add_one, hxk.out, HL.out]
                      simp only [Option.toList_some, List.map_append, List.map_cons, List.map_nil]
                      exact nmT_snoc _ _ _)
                    clear hcell hr hx hWB hxk
                    go_wp2_with (go_at_call 12; refine (l01Num x _ hxr).mono ?_; rintro e w2 ⟨rfl, hb2⟩)
                    refine ⟨⟨k + 1, L ++ [32] ++ Lib.itoa x, by omega, by go_num, ?_, Lib.hid HN.out.symm, hB.trans (hb2.mono hB.size)⟩, by simp [intOf]; omega⟩
                    exact congrArg Value.string ((congrArg (· ++ _) (bytes_app L [32])).trans (bytes_app _ _))
                  · obtain rfl : k = B.f.length := by omega
                    rw [List.take_length] at HL
                    go_wp2_with fail
                    go_ret
                    refine ⟨ret_str ?_, HB1.out.trans (hB.mono HB1.out.size)⟩
                    rw [HF.out, HL.out, HE4.out, HE3.out, HE2.out]
                    simp [benchT, nmT, sHeld, sWaiting, sFreed]
end Go.Proofs.YtiamkgkhamnaeaaDoor
