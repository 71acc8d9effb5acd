/- Contract of chapter 9's model function BenchOk (package spec). Condition: the bench's rows can be read; lengths that a law bounds. -/
import Derived.Test.YtkpgjeeofghldaaMN
import Derived.Test.YtkpgjeeofghldaaSteps
namespace Go.Proofs.Ytkpgjeeofghldaa
set_option maxRecDepth 20000
set_option linter.unusedSimpArgs false
set_option linter.unusedVariables false
open Go.ChangeShapes Go.WideShapes Go.ChangeAt Go.RowKit
set_option linter.unusedVariables false
def hIn (B : Bn) (e : P2) : Prop := (0 ≤ e.a ∧ e.a ≤ 4) ∧ (1 ≤ e.b ∧ e.b < B.n)
theorem nodup_take_snoc {α : Type} {xs : List α} {k : Nat} {x : α} (h : (xs.take k).Nodup) (hx : xs[k]? = some x) (hn : ∀ y ∈ xs.take k, y ≠ x) : (xs.take (k + 1)).Nodup := by
  rw [List.take_add_one, hx]
  simp only [Option.toList_some]
  rw [List.nodup_append]
  refine ⟨h, by simp, fun a ha b hb => ?_⟩
  rw [List.mem_singleton.1 hb]
  exact hn a ha
theorem nodup_ne {α : Type} {xs : List α} (h : xs.Nodup) {i j : Nat} {x : α} (hij : i < j) (hi : xs[i]? = some x) (hj : xs[j]? = some x) : False := by
  obtain ⟨h1, e1⟩ := List.getElem?_eq_some_iff.1 hi
  obtain ⟨h2, e2⟩ := List.getElem?_eq_some_iff.1 hj
  exact (List.pairwise_iff_getElem.1 (List.nodup_iff_pairwise_ne.1 h)) i j h1 h2 hij (e1.trans e2.symm)
theorem mem_take_snoc {α : Type} {p : α → Prop} {xs : List α} {k : Nat} {x : α} (h : ∀ y ∈ xs.take k, p y) (hx : xs[k]? = some x) (hp : p x) : ∀ y ∈ xs.take (k + 1), p y := by
  intro y hy
  rw [List.take_add_one, hx, List.mem_append] at hy
  rcases hy with hy | hy
  · exact h y hy
  · simp at hy
    rw [hy]
    exact hp
theorem ok_next {B : Bn} (h : inB B.n 1 61 = false) : bnOk B = false := bnOk_no fun hb => by
  have := hb.1
  simp [inB] at h
  omega
theorem ok_lens {B : Bn} (h : ¬ ((B.l.length : Int) + B.w.length) + B.f.length = B.n - 1) : bnOk B = false := bnOk_no fun hb => h (bnOk_lens hb)
theorem ok_held {B : Bn} (h : 300 < B.h.length) : bnOk B = false := bnOk_no fun hb => by have := bnOk_held hb; omega
theorem ok_asc {B : Bn} {i : Nat} {x y : Int} (hx : B.l[i]? = some x) (hy : B.l[i + 1]? = some y) (h : y ≤ x) : bnOk B = false := bnOk_no fun hb => by have := pairwise_adj hb.2.2.1 hx hy; omega
theorem ok_cnt {B : Bn} {x : Int} (h1 : 1 ≤ x) (h2 : x < B.n) (h : cnt3 B x ≠ 1) : bnOk B = false := bnOk_no fun hb => h (bnOk_cnt hb h1 h2)
theorem ok_in {B : Bn} {k : Nat} {e : P2} (he : B.h[k]? = some e) (h : ¬ hIn B e) : bnOk B = false := bnOk_no fun hb => h (hb.2.2.2.1 e (List.mem_of_getElem? he))
def ni (b : Bool) : Int := if b then 1 else 0
theorem ok_dup {B : Bn} {j k : Nat} {e : P2} (hjk : j < k) (hj : B.h[j]? = some e) (hk : B.h[k]? = some e) : bnOk B = false := bnOk_no fun hb => nodup_ne hb.2.2.2.2 hjk hj hk
set_option maxHeartbeats 6400000 in
theorem spec_BenchOk (a b c d : Value) (B : Bn) (w : World) (r : RdBn w a b c d B) (hsz : szBn B ≤ 16777216) :
    Calls Try.prog 11 #[.agg #[a, b, c, d, .int .i64 B.n]] w fun e w' => e = .returned (.bool (bnOk B)) ∧ Below w.heap.size w w' := by
  obtain ⟨A1, c1, A2, c2, A3, c3, A4, c4, ⟨rfl, rfl, rfl, rfl⟩, ⟨g1, g2, g3, g4⟩, ⟨k1, k2, k3, k4⟩⟩ := r.slices
  have hB := (Below.refl w.heap.size w).alloc (Nat.le_refl _) (.cells #[.slice A1 B.l.length c1, .slice A2 B.h.length c2, .slice A3 B.w.length c3, .slice A4 B.f.length c4, .int .i64 B.n] 30)
  have hsm : (B.l.length ≤ 16777216 ∧ B.h.length ≤ 16777216) ∧ B.w.length ≤ 16777216 ∧ B.f.length ≤ 16777216 := by unfold szBn at hsz; omega
  cases hin : inB B.n 1 61
  · have HO := Lib.hid (ok_next hin)
    go_enter Try.func11, Try.ntmps11
    go_wp2_with (go_at_call 17; refine (l01In _ _ _ _).mono ?_; rintro e w' ⟨rfl, rfl⟩; rw [hin])
    go_ret
    exact ⟨ret_bool HO.out.symm, hB⟩
  have hn := inB_true hin
  by_cases hln : ((B.l.length : Int) + B.w.length) + B.f.length = B.n - 1
  case neg =>
    have HO := Lib.hid (ok_lens hln)
    have hne : (((B.l.length : Int) + B.w.length + B.f.length) != (B.n - 1)) = true := by simp [hln]
    clear hln
    go_enter Try.func11, Try.ntmps11
    go_wp2_with (go_at_call 17; refine (l01In _ _ _ _).mono ?_; rintro e w' ⟨rfl, rfl⟩; rw [hin])
    go_ret
    exact ⟨ret_bool HO.out.symm, hB⟩
  have hne : (((B.l.length : Int) + B.w.length + B.f.length) != (B.n - 1)) = false := by simp [hln]
  by_cases h3 : 300 < B.h.length
  · have HO := Lib.hid (ok_held h3)
    go_enter Try.func11, Try.ntmps11
    go_wp2_with (go_at_call 17; refine (l01In _ _ _ _).mono ?_; rintro e w' ⟨rfl, rfl⟩; rw [hin])
    go_ret
    exact ⟨ret_bool HO.out.symm, hB⟩
  obtain ⟨W1, hW1⟩ : ∃ W1, W1 = w.alloc (.cells #[.slice A1 B.l.length c1, .slice A2 B.h.length c2, .slice A3 B.w.length c3, .slice A4 B.f.length c4, .int .i64 B.n] 30) := ⟨_, rfl⟩
  have K := Bk.new w #[.slice A1 B.l.length c1, .slice A2 B.h.length c2, .slice A3 B.w.length c3, .slice A4 B.f.length c4, .int .i64 B.n] 30
  have r1 := r.below hB
  rw [← hW1] at hB K r1
  obtain ⟨q0, -⟩ := K.at_ 0 (x := .slice A1 B.l.length c1) rfl
  obtain ⟨q1, -⟩ := K.at_ 1 (x := .slice A2 B.h.length c2) rfl
  obtain ⟨q2, -⟩ := K.at_ 2 (x := .slice A3 B.w.length c3) rfl
  obtain ⟨q3, -⟩ := K.at_ 3 (x := .slice A4 B.f.length c4) rfl
  obtain ⟨q4, -⟩ := K.at_ 4 (x := .int .i64 B.n) rfl
  have HW1 := Lib.hid hW1
  have HB := Lib.hid hB
  have HR := Lib.hid r1
  have HLN := Lib.hid hln
  clear hW1 hB K r1 r hln hsz
  go_enter Try.func11, Try.ntmps11
  go_wp2_with (go_at_call 17; refine (l01In _ _ _ _).mono ?_; rintro e w' ⟨rfl, rfl⟩; rw [hin])
  clear hin hne
  go_loopw [3] (fun i wr => ∃ k nq : Nat, 1 ≤ k ∧ (k ≤ B.l.length ∨ k = 1) ∧ i = .int .i64 k ∧ Hid (∀ j x y, j + 1 < k → B.l[j]? = some x → B.l[j + 1]? = some y → x < y) ∧ wr = W1.drewN nq) (fun i _ => B.l.length + 1 - (intOf i).toNat)
  case atStart => exact ⟨1, 0, Nat.le_refl _, .inr rfl, rfl, Lib.hid (fun j x y h => by omega), by rw [HW1.out]; rfl⟩
  case round =>
    obtain ⟨k, nq, hk1, hk2, rfl, HA, rfl⟩ := hrel
    by_cases hlt : k < B.l.length
    · obtain ⟨j, rfl⟩ : ∃ j, k = j + 1 := ⟨k - 1, by omega⟩
      obtain ⟨A, cc, he, -, -, -, hr⟩ := HR.out.l
      injection he with e1 _ e2
      subst e1 e2
      obtain ⟨b, o, rfl, hb, hcell⟩ := hr (by omega)
      obtain ⟨x, hxk, hx⟩ := int_at (k := j) hcell (by omega)
      obtain ⟨y, hyk, hy⟩ := int_at (k := j + 1) hcell hlt
      clear hcell hr
      by_cases hxy : x < y
      · have HN : Hid (∀ i x y, i + 1 < j + 1 + 1 → B.l[i]? = some x → B.l[i + 1]? = some y → x < y) := Lib.hid (fun i x' y' hi hx' hy' => by
          by_cases hij : i = j
          · subst hij
            have e1 := hxk.out.symm.trans hx'
            have e2 := hyk.out.symm.trans hy'
            injection e1 with e1
            injection e2 with e2
            omega
          · exact HA.out i x' y' (by omega) hx' hy')
        go_wp2_with fail
        go_quiet (fail)
        go_wp2_with fail
        exact ⟨⟨j + 1 + 1, _, by omega, .inl (by omega), by go_num, HN, rfl⟩, by simp [intOf]; omega⟩
      · have HO := Lib.hid (ok_asc hxk.out hyk.out (by omega))
        go_wp2_with fail
        go_quiet (fail)
        go_wp2_with fail
        go_ret
        exact ⟨ret_bool HO.out.symm, below_more (below_more HB.out _) _⟩
    · have HA2 : Hid (∀ j x y, B.l[j]? = some x → B.l[j + 1]? = some y → x < y) := Lib.hid (fun j x y hx hy => HA.out j x y (by have := (List.getElem?_eq_some_iff.1 hy).1; omega) hx hy)
      clear HA
      go_wp2_with fail
      clear hk1 hk2 hlt
      go_loop [4, 5] (fun x _ => ∃ k : Nat, 1 ≤ k ∧ (k : Int) ≤ B.n ∧ x = .int .i64 k ∧ Hid (∀ y : Int, 1 ≤ y → y < k → cnt3 B y = 1)) (fun x _ => B.n.toNat - (intOf x).toNat)
      case atStart => exact ⟨1, Nat.le_refl _, by omega, rfl, Lib.hid (fun y h1 h2 => by omega)⟩
      case round =>
        obtain ⟨m, hm1, hm2, rfl, HC⟩ := hrel
        by_cases hlt2 : (m : Int) < B.n
        · have RW := HR.out.below (below_drewN W1 nq)
          have hL1 := l01Has _ B.l m _ RW.l
          have hL2 := l01Has _ B.w m _ RW.q
          have hL3 := l01Has _ B.f m _ RW.f
          obtain ⟨v1, hv1⟩ : ∃ v, B.l.any (· == (m : Int)) = v := ⟨_, rfl⟩
          obtain ⟨v2, hv2⟩ : ∃ v, B.w.any (· == (m : Int)) = v := ⟨_, rfl⟩
          obtain ⟨v3, hv3⟩ : ∃ v, B.f.any (· == (m : Int)) = v := ⟨_, rfl⟩
          have HN : Hid (cnt3 B m = ni v1 + ni v2 + ni v3) := Lib.hid (by unfold cnt3 ni; rw [hv1, hv2, hv3])
          have HF : Hid (cnt3 B m ≠ 1 → bnOk B = false) := Lib.hid (fun hc => ok_cnt (by omega) hlt2 hc)
          rw [hv1] at hL1
          rw [hv2] at hL2
          rw [hv3] at hL3
          have H1 := Lib.hid hL1
          have H2 := Lib.hid hL2
          have H3 := Lib.hid hL3
          clear hL1 hL2 hL3 hv1 hv2 hv3 RW
          go_upto_if 63 with (go_at_call 18; refine H1.out.mono ?_; rintro e w' ⟨rfl, rfl⟩)
          go_cut [5] (fun n wx => ∃ N : Int, Hid (N = ni v1) ∧ (0 ≤ N ∧ N ≤ 1) ∧ n = .int .i64 N ∧ wx = W1.drewN nq)
          case first =>
            cases v1
            · go_wp2_with fail
              go_meet
              exact ⟨0, Lib.hid rfl, by omega, rfl, rfl⟩
            · go_wp2_with fail
              go_meet
              exact ⟨1, Lib.hid rfl, by omega, rfl, rfl⟩
          case rest =>
            obtain ⟨N1, HN1, hN1, rfl, rfl⟩ := hcut
            go_upto_if 69 with (go_at_call 18; refine H2.out.mono ?_; rintro e w' ⟨rfl, rfl⟩)
            go_cut [5] (fun n wx => ∃ N : Int, Hid (N = ni v1 + ni v2) ∧ (0 ≤ N ∧ N ≤ 2) ∧ n = .int .i64 N ∧ wx = W1.drewN nq)
            case first =>
              cases v2
              · go_wp2_with fail
                go_meet
                exact ⟨N1, Lib.hid (by rw [HN1.out]; simp [ni]), by omega, rfl, rfl⟩
              · go_wp2_with fail
                go_meet
                exact ⟨N1 + 1, Lib.hid (by rw [HN1.out]; simp [ni]), by omega, rfl, rfl⟩
            case rest =>
              obtain ⟨N2, HN2, hN2, rfl, rfl⟩ := hcut
              go_upto_if 75 with (go_at_call 18; refine H3.out.mono ?_; rintro e w' ⟨rfl, rfl⟩)
              go_cut [5] (fun n wx => ∃ N : Int, Hid (N = cnt3 B m) ∧ (0 ≤ N ∧ N ≤ 3) ∧ n = .int .i64 N ∧ wx = W1.drewN nq)
              case first =>
                cases v3
                · go_wp2_with fail
                  go_meet
                  exact ⟨N2, Lib.hid (by rw [HN.out, HN2.out]; simp [ni]), by omega, rfl, rfl⟩
                · go_wp2_with fail
                  go_meet
                  exact ⟨N2 + 1, Lib.hid (by rw [HN.out, HN2.out]; simp [ni]), by omega, rfl, rfl⟩
              case rest =>
                obtain ⟨N3, HN3, hN3, rfl, rfl⟩ := hcut
                by_cases hc : N3 = 1
                · have hb : (N3 != 1) = false := by simp [hc]
                  have HC1 : Hid (∀ y : Int, 1 ≤ y → y < ((m + 1 : Nat) : Int) → cnt3 B y = 1) := Lib.hid (fun y h1 h2 => by
                    by_cases hy : y < m
                    · exact HC.out y h1 hy
                    · have : y = m := by omega
                      rw [this, ← HN3.out, hc])
                  go_wp2_with fail
                  exact ⟨⟨m + 1, by omega, by omega, by go_num, HC1⟩, by simp [intOf]; omega⟩
                · have hb : (N3 != 1) = true := by simp [hc]
                  have HO := Lib.hid (HF.out (by rw [← HN3.out]; exact hc))
                  go_wp2_with fail
                  go_ret
                  exact ⟨ret_bool HO.out.symm, below_more HB.out _⟩
        · have HC2 : Hid (∀ y : Int, 1 ≤ y → y < B.n → cnt3 B y = 1) := Lib.hid (fun y h1 h2 => HC.out y h1 (by omega))
          clear HC hm1 hm2
          go_wp2_with fail
          clear hlt2
          go_loopw [6] (fun i wr => ∃ k nq : Nat, k ≤ B.h.length ∧ i = .int .i64 k ∧ Hid ((∀ e ∈ B.h.take k, hIn B e) ∧ (B.h.take k).Nodup) ∧ wr = W1.drewN nq) (fun i _ => B.h.length - (intOf i).toNat)
          case atStart => exact ⟨0, nq, Nat.zero_le _, rfl, Lib.hid ⟨by simp, by simp⟩, rfl⟩
          case round =>
            obtain ⟨k, nq3, hk, rfl, HH, rfl⟩ := hrel
            by_cases hlt3 : k < B.h.length
            · obtain ⟨A, cc, he, -, -, -, hr⟩ := HR.out.h
              injection he with e1 _ e2
              subst e1 e2
              obtain ⟨b, o, rfl, hb, hcell⟩ := hr (by omega)
              obtain ⟨e, hek, hx0, hx1⟩ := p2_at hcell hlt3
              obtain ⟨ea, eb⟩ := e
              simp only at hx0 hx1
              obtain ⟨v1, hv1⟩ : ∃ v, inB ea 0 4 = v := ⟨_, rfl⟩
              obtain ⟨v2, hv2⟩ : ∃ v, inB eb 1 (B.n - 1) = v := ⟨_, rfl⟩
              have HQ1 : Hid (∀ W : World, Calls Try.prog 17 #[.int .i64 ea, .int .i64 0, .int .i64 4] W fun e w' => e = .returned (.bool v1) ∧ ∃ n, w' = W.drewN n) := Lib.hid (fun W => (l01In ea 0 4 W).mono fun e w' h => ⟨by rw [h.1, hv1], 0, h.2.symm⟩)
              have HQ2 : Hid (∀ W : World, Calls Try.prog 17 #[.int .i64 eb, .int .i64 1, .int .i64 (B.n - 1)] W fun e w' => e = .returned (.bool v2) ∧ ∃ n, w' = W.drewN n) := Lib.hid (fun W => (l01In eb 1 (B.n - 1) W).mono fun e w' h => ⟨by rw [h.1, hv2], 0, h.2.symm⟩)
              have HI : Hid (v1 = true → v2 = true → hIn B ⟨ea, eb⟩) := Lib.hid (fun h1 h2 => by
                rw [h1] at hv1
                rw [h2] at hv2
                have := inB_true hv1
                have := inB_true hv2
                exact ⟨⟨by show 0 ≤ ea; omega, by show ea ≤ 4; omega⟩, by show 1 ≤ eb; omega, by show eb < B.n; omega⟩)
              have HO1 : Hid (v1 = false ∨ v2 = false → bnOk B = false) := Lib.hid (fun h => ok_in hek.out (fun hi => by
                have i1 : 0 ≤ ea := hi.1.1
                have i2 : ea ≤ 4 := hi.1.2
                have i3 : 1 ≤ eb := hi.2.1
                have i4 : eb < B.n := hi.2.2
                rcases h with h | h
                · rw [h] at hv1
                  rcases inB_false hv1 with h | h
                  · omega
                  · omega
                · rw [h] at hv2
                  rcases inB_false hv2 with h | h
                  · omega
                  · omega))
              clear hv1 hv2
              obtain ⟨WW, hWW⟩ : ∃ WW, WW = W1.drewN nq3 := ⟨_, rfl⟩
              have s1 : WW.cell? ⟨w.heap.size, 1, none⟩ = some (.slice (some ⟨b, o, none⟩) B.h.length c2) := by rw [hWW]; exact q1
              have s4 : WW.cell? ⟨w.heap.size, 4, none⟩ = some (.int .i64 B.n) := by rw [hWW]; exact q4
              have s5 : WW.cell? ⟨b, o + k * 2, none⟩ = some (.int .i64 ea) := by rw [hWW]; exact hx0
              have s6 : WW.cell? ⟨b, o + k * 2 + 1, none⟩ = some (.int .i64 eb) := by rw [hWW]; exact hx1
              have HBW : Hid (Below w.heap.size w WW) := Lib.hid (by rw [hWW]; exact below_more HB.out _)
              rw [← hWW]
              have HWW := Lib.hid hWW
              clear hWW
              cases v1
              · have HO := Lib.hid (HO1.out (.inl rfl))
                clear hcell hr
                go_wp2_with fail
                go_quiet (first | (go_at_call_of 17 (Value.int IntKind.i64 ea); exact Calls.quiet_of (HQ1.out _)) | (go_at_call_of 17 (Value.int IntKind.i64 eb); exact Calls.quiet_of (HQ2.out _)))
                go_wp2_with fail
                go_ret
                exact ⟨ret_bool HO.out.symm, below_more HBW.out _⟩
              · cases v2
                · have HO := Lib.hid (HO1.out (.inr rfl))
                  clear hcell hr
                  go_wp2_with fail
                  go_quiet (first | (go_at_call_of 17 (Value.int IntKind.i64 ea); exact Calls.quiet_of (HQ1.out _)) | (go_at_call_of 17 (Value.int IntKind.i64 eb); exact Calls.quiet_of (HQ2.out _)))
                  go_wp2_with fail
                  go_ret
                  exact ⟨ret_bool HO.out.symm, below_more HBW.out _⟩
                · have HII := Lib.hid (HI.out rfl rfl)
                  have HCE := Lib.hid hcell
                  clear HI HO1 hcell hr
                  go_wp2_with fail
                  go_quiet (first | (go_at_call_of 17 (Value.int IntKind.i64 ea); exact Calls.quiet_of (HQ1.out _)) | (go_at_call_of 17 (Value.int IntKind.i64 eb); exact Calls.quiet_of (HQ2.out _)))
                  clear HQ1 HQ2
                  go_wp2_with fail
                  go_loopw [7] (fun j wr => ∃ m nq : Nat, m ≤ k ∧ j = .int .i64 m ∧ Hid (∀ y ∈ B.h.take m, y ≠ ⟨ea, eb⟩) ∧ wr = W1.drewN nq) (fun j _ => k - (intOf j).toNat)
                  case atStart => exact ⟨0, _, Nat.zero_le _, rfl, Lib.hid (by simp), by rw [HWW.out]; exact World.drewN_drewN _ _ _⟩
                  clear s1 s4 s5 s6
                  case round =>
                    obtain ⟨m, nq4, hm, rfl, HM, rfl⟩ := hrel
                    by_cases hlt4 : m < k
                    · obtain ⟨y, hym, hy0, hy1⟩ := p2_at (k := m) HCE.out (by omega)
                      obtain ⟨ya, yb⟩ := y
                      simp only at hy0 hy1
                      have hlt5 : m < B.h.length := by omega
                      by_cases heq : ya = ea ∧ yb = eb
                      · obtain ⟨rfl, rfl⟩ := heq
                        have HO := Lib.hid (ok_dup hlt4 hym.out hek.out)
                        go_wp2_with fail
                        go_quiet (fail)
                        go_wp2_with fail
                        go_ret
                        exact ⟨ret_bool HO.out.symm, below_more (below_more HB.out _) _⟩
                      · have HN : Hid (∀ y ∈ B.h.take (m + 1), y ≠ ⟨ea, eb⟩) := Lib.hid (mem_take_snoc HM.out hym.out (fun e => heq (by injection e with e1 e2; exact ⟨e1, e2⟩)))
                        have hc2 : ((ya == ea) = false) ∨ ((ya == ea) = true ∧ (yb == eb) = false) := by
                          by_cases h1 : ya = ea
                          · by_cases h2 : yb = eb
                            · exact absurd ⟨h1, h2⟩ heq
                            · exact .inr ⟨by simp [h1], by simp [h2]⟩
                          · exact .inl (by simp [h1])
                        clear heq
                        rcases hc2 with e1 | ⟨e1, e2⟩
                        all_goals
                          go_wp2_with fail
                          go_quiet (fail)
                          go_wp2_with fail
                          exact ⟨⟨m + 1, _, by omega, by go_num, HN, rfl⟩, by simp [intOf]; omega⟩
                    · obtain rfl : m = k := by omega
                      have HN : Hid ((∀ e ∈ B.h.take (m + 1), hIn B e) ∧ (B.h.take (m + 1)).Nodup) := Lib.hid ⟨mem_take_snoc HH.out.1 hek.out HII.out, nodup_take_snoc HH.out.2 hek.out HM.out⟩
                      go_wp2_with fail
                      exact ⟨⟨m + 1, _, by omega, by go_num, HN, rfl⟩, by simp [intOf]; omega⟩
            · have HO : Hid (bnOk B = true) := Lib.hid (bnOk_iff.2 (bnOk_of hn HLN.out HA2.out HC2.out (by have := HH.out.1; rwa [List.take_of_length_le (by omega)] at this) (by have := HH.out.2; rwa [List.take_of_length_le (by omega)] at this)))
              go_wp2_with fail
              go_ret
              exact ⟨ret_bool HO.out.symm, below_more HB.out _⟩
end Go.Proofs.Ytkpgjeeofghldaa
