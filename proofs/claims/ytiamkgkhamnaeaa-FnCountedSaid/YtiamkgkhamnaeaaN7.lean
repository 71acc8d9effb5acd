/- Contracts of chapter 9's model functions SafeBench, HeldBy, HoldersOf (package spec). Conditions: the bench's rows can be read; lengths that a law bounds. -/
import Derived.Test.YtiamkgkhamnaeaaN1
namespace Go.Proofs.Ytiamkgkhamnaeaa
set_option maxRecDepth 20000
set_option linter.unusedSimpArgs false
set_option linter.unusedVariables false
open Go.ChangeShapes Go.WideShapes Go.ChangeAt Go.RowKit
set_option linter.unusedVariables false
def byTo (B : Bn) (t : Int) (k : Nat) : List Int := ((B.h.take k).filter fun e => e.a == t).map (·.b)
def ofTo (B : Bn) (x : Int) (k : Nat) : List Int := ((B.h.take k).filter fun e => e.b == x).map (·.a)
theorem byTo_yes {B : Bn} {t : Int} {k : Nat} {e : P2} (he : B.h[k]? = some e) (h : e.a = t) : byTo B t (k + 1) = byTo B t k ++ [e.b] := by
  unfold byTo
  rw [List.take_add_one, he]
  simp [List.filter_append, h]
theorem byTo_no {B : Bn} {t : Int} {k : Nat} {e : P2} (he : B.h[k]? = some e) (h : ¬ e.a = t) : byTo B t (k + 1) = byTo B t k := by
  unfold byTo
  rw [List.take_add_one, he]
  simp [List.filter_append, h]
theorem ofTo_yes {B : Bn} {t : Int} {k : Nat} {e : P2} (he : B.h[k]? = some e) (h : e.b = t) : ofTo B t (k + 1) = ofTo B t k ++ [e.a] := by
  unfold ofTo
  rw [List.take_add_one, he]
  simp [List.filter_append, h]
theorem ofTo_no {B : Bn} {t : Int} {k : Nat} {e : P2} (he : B.h[k]? = some e) (h : ¬ e.b = t) : ofTo B t (k + 1) = ofTo B t k := by
  unfold ofTo
  rw [List.take_add_one, he]
  simp [List.filter_append, h]
theorem byTo_len (B : Bn) (t : Int) (k : Nat) : (byTo B t k).length ≤ k := by
  unfold byTo
  rw [List.length_map]
  have h1 := List.length_filter_le (fun e : P2 => e.a == t) (B.h.take k)
  rw [List.length_take] at h1
  omega
theorem ofTo_len (B : Bn) (t : Int) (k : Nat) : (ofTo B t k).length ≤ k := by
  unfold ofTo
  rw [List.length_map]
  have h1 := List.length_filter_le (fun e : P2 => e.b == t) (B.h.take k)
  rw [List.length_take] at h1
  omega
theorem byTo_all (B : Bn) (t : Int) : byTo B t B.h.length = byF B t := by simp [byTo, byF]
theorem ofTo_all (B : Bn) (t : Int) : ofTo B t B.h.length = ofF B t := by simp [ofTo, ofF]
set_option maxHeartbeats 1600000 in
theorem spec_HeldBy (a b c d : Value) (B : Bn) (t : Int) (w : World) (r : RdBn w a b c d B) (hsz : szBn B ≤ 16777216) :
    Calls Try.prog 78 #[.agg #[a, b, c, d, .int .i64 B.n], .int .i64 t] w (RetInts (heldF B t) w) := by
  obtain ⟨A1, c1, A2, c2, A3, c3, A4, c4, ⟨rfl, rfl, rfl, rfl⟩, ⟨g1, g2, g3, g4⟩, ⟨k1, k2, k3, k4⟩⟩ := r.slices
  obtain ⟨i, hi, hiz0, hiz1, hiz2⟩ := info_parts infoInt
  obtain ⟨W2, hW2⟩ : ∃ W2, W2 = (w.alloc (.cells #[.slice A1 B.l.length c1, .slice A2 B.h.length c2, .slice A3 B.w.length c3, .slice A4 B.f.length c4, .int .i64 B.n] 31)).alloc (.cells #[] 3) := ⟨_, rfl⟩
  have hB0 := ((Below.refl w.heap.size w).alloc (Nat.le_refl _) (.cells #[.slice A1 B.l.length c1, .slice A2 B.h.length c2, .slice A3 B.w.length c3, .slice A4 B.f.length c4, .int .i64 B.n] 31)).alloc (by simp) (.cells #[] 3)
  have k0 := (Bk.new w #[.slice A1 B.l.length c1, .slice A2 B.h.length c2, .slice A3 B.w.length c3, .slice A4 B.f.length c4, .int .i64 B.n] 31).alloc (.cells #[] 3)
  have hO := World.ownsRow_lit (base := w.heap.size + 1) (e := 3) (size := 1) (w.alloc (.cells #[.slice A1 B.l.length c1, .slice A2 B.h.length c2, .slice A3 B.w.length c3, .slice A4 B.f.length c4, .int .i64 B.n] 31)) #[] 0 (by simp) (by simp [maxLen]) rfl
  simp only [World.size_alloc] at hO
  rw [← hW2] at hB0 k0 hO
  have r0 := r.below hB0
  have hC := spec_BenchOk _ _ _ _ B _ r0 hsz
  have hbs : B.h.length ≤ 16777216 := by unfold szBn at hsz; omega
  have HW2 := Lib.hid hW2
  cases hok : bnOk B
  · rw [hok] at hC
    have HC := Lib.hid hC
    have HO : Hid (heldF B t = []) := Lib.hid (by simp [heldF, hok])
    clear hC hok r r0 hsz hW2
    go_enter Try.func78, Try.ntmps78
    go_wp2_with fail
    rw [← HW2.out]
    refine HC.out.mono ?_
    rintro e w1 ⟨rfl, hb1⟩
    go_wp2_with fail
    go_ret
    exact ⟨_, [], rfl, by rw [HO.out]; exact Own.nil _ _, by simp, hB0.trans (hb1.mono hB0.size)⟩
  · rw [hok] at hC
    have HC := Lib.hid hC
    have HO : Hid (heldF B t = byF B t) := Lib.hid (by simp [heldF, hok])
    have HR := Lib.hid r
    clear hC hok r r0 hsz hW2
    go_enter Try.func78, Try.ntmps78
    go_wp2_with fail
    rw [← HW2.out]
    refine HC.out.mono ?_
    rintro e w1 ⟨rfl, hb1⟩
    have kk := k0.below hb1 k0.lt
    have hB1 := hB0.trans (hb1.mono hB0.size)
    have hO1 := ownsRow_below hO hb1
    clear hb1 k0 hB0 hO
    go_wp2_with fail
    go_loopw [5, 6] (fun v i wr => ∃ k m : Nat, k ≤ B.h.length ∧ i = .int .i64 k ∧ (wr.ownsRow (w.heap.size + 1) 3 1 v m (ints (byTo B t k)) ∧ Below w.heap.size w wr) ∧ m ≤ k ∧ Bk wr w.heap.size #[.slice A1 B.l.length c1, .slice A2 B.h.length c2, .slice A3 B.w.length c3, .slice A4 B.f.length c4, .int .i64 B.n] 31) (fun _ i _ => B.h.length - (intOf i).toNat)
    case atStart => exact ⟨0, 0, Nat.zero_le _, rfl, ⟨hO1, hB1⟩, Nat.le_refl _, kk⟩
    case round =>
      obtain ⟨k, m, hk, rfl, ⟨hO, hB⟩, hm, kb⟩ := hrel
      clear hO1 hB1 kk
      obtain ⟨t1, -⟩ := kb.at_ 1 (x := .slice A2 B.h.length c2) rfl
      have hlb := kb.lt
      by_cases hlt : k < B.h.length
      · obtain ⟨A, cc, he, -, -, -, hr⟩ := HR.out.h
        injection he with e1 _ e2
        subst e1 e2
        obtain ⟨b, o, rfl, hb, hcell⟩ := hr (by omega)
        obtain ⟨e, hek, hx0, hx1⟩ := p2_at (fun j u hu => (hB.cell (p := ⟨b, o + j, none⟩) hb).trans (hcell j u hu)) hlt
        obtain ⟨ea, eb⟩ := e
        simp only at hx0 hx1
        have hbw : b < wr.heap.size := Nat.lt_of_lt_of_le hb hB.size
        clear hcell hr
        by_cases hq : ea = t
        · have HT : Hid (byTo B t k ++ [eb] = byTo B t (k + 1)) := Lib.hid (byTo_yes hek.out hq).symm
          have hq' : (ea == t) = true := by simp [hq]
          clear hq
          go_wp2_with (at_builtin; refine wpList_append_own _ rfl _ _ 22 rfl (w.heap.size + 1) 3 i (.int .i64 0) 1 8 Try.underlying22 hi hiz0 hiz1 hiz2 rfl (by decide) _ _ _ rfl (hO.alloc _) ⟨wr.heap.size, 0, none⟩ 1 1 [.int .i64 eb] rfl rfl (new_cells _ _ _) (by simp [Value.oneCell']) (by unfold maxLen; omega) (by omega) (by have := hB.size; simp; omega) ?_)
          intro v' w1 hown' hgrow _
          have hB' := (hB.alloc hB.size _).grown hgrow (by have := hB.size; simp; omega) (fun k hk => by have := (hO.lt k hk).1; omega)
          have kn := (kb.alloc (.cells #[.int .i64 eb] 3)).grown hgrow (fun j hj => by have := (hO.lt j hj).1; omega)
          rw [show ints (byTo B t k) ++ [Value.int .i64 eb] = ints (byTo B t (k + 1)) by rw [← HT.out]; simp [ints]] at hown'
          clear hgrow
          go_wp2_with fail
          exact ⟨⟨k + 1, m + 1, by omega, by go_num, ⟨hown', hB'⟩, by omega, kn⟩, by simp [intOf]; omega⟩
        · have HT : Hid (byTo B t (k + 1) = byTo B t k) := Lib.hid (byTo_no hek.out hq)
          have hq' : (ea == t) = false := by simp [hq]
          clear hq
          go_wp2_with fail
          exact ⟨⟨k + 1, m, by omega, by go_num, ⟨by rw [HT.out]; exact hO, hB⟩, by omega, kb⟩, by simp [intOf]; omega⟩
      · obtain rfl : k = B.h.length := by omega
        have hmm := hO.1
        rw [ints_len] at hmm
        obtain ⟨bs, h1, h2⟩ := Own.of_owns hO
        rw [byTo_all] at h1 hmm
        obtain rfl : m = (byF B t).length := by omega
        have HF := Lib.hid h1
        clear h1 hO hmm
        go_wp2_with fail
        go_ret
        exact ⟨_, bs, rfl, by rw [HO.out]; exact HF.out, fun x hx => by have := h2 x hx; omega, hB⟩
set_option maxHeartbeats 1600000 in
theorem spec_HoldersOf (a b c d : Value) (B : Bn) (t : Int) (w : World) (r : RdBn w a b c d B) (hsz : szBn B ≤ 16777216) :
    Calls Try.prog 51 #[.agg #[a, b, c, d, .int .i64 B.n], .int .i64 t] w (RetInts (holdersF B t) w) := by
  obtain ⟨A1, c1, A2, c2, A3, c3, A4, c4, ⟨rfl, rfl, rfl, rfl⟩, ⟨g1, g2, g3, g4⟩, ⟨k1, k2, k3, k4⟩⟩ := r.slices
  obtain ⟨i, hi, hiz0, hiz1, hiz2⟩ := info_parts infoInt
  obtain ⟨W2, hW2⟩ : ∃ W2, W2 = (w.alloc (.cells #[.slice A1 B.l.length c1, .slice A2 B.h.length c2, .slice A3 B.w.length c3, .slice A4 B.f.length c4, .int .i64 B.n] 31)).alloc (.cells #[] 3) := ⟨_, rfl⟩
  have hB0 := ((Below.refl w.heap.size w).alloc (Nat.le_refl _) (.cells #[.slice A1 B.l.length c1, .slice A2 B.h.length c2, .slice A3 B.w.length c3, .slice A4 B.f.length c4, .int .i64 B.n] 31)).alloc (by simp) (.cells #[] 3)
  have k0 := (Bk.new w #[.slice A1 B.l.length c1, .slice A2 B.h.length c2, .slice A3 B.w.length c3, .slice A4 B.f.length c4, .int .i64 B.n] 31).alloc (.cells #[] 3)
  have hO := World.ownsRow_lit (base := w.heap.size + 1) (e := 3) (size := 1) (w.alloc (.cells #[.slice A1 B.l.length c1, .slice A2 B.h.length c2, .slice A3 B.w.length c3, .slice A4 B.f.length c4, .int .i64 B.n] 31)) #[] 0 (by simp) (by simp [maxLen]) rfl
  simp only [World.size_alloc] at hO
  rw [← hW2] at hB0 k0 hO
  have r0 := r.below hB0
  have hC := spec_BenchOk _ _ _ _ B _ r0 hsz
  have hbs : B.h.length ≤ 16777216 := by unfold szBn at hsz; omega
  have HW2 := Lib.hid hW2
  cases hok : bnOk B
  · rw [hok] at hC
    have HC := Lib.hid hC
    have HO : Hid (holdersF B t = []) := Lib.hid (by simp [holdersF, hok])
    clear hC hok r r0 hsz hW2
    go_enter Try.func51, Try.ntmps51
    go_wp2_with fail
    rw [← HW2.out]
    refine HC.out.mono ?_
    rintro e w1 ⟨rfl, hb1⟩
    go_wp2_with fail
    go_ret
    exact ⟨_, [], rfl, by rw [HO.out]; exact Own.nil _ _, by simp, hB0.trans (hb1.mono hB0.size)⟩
  · rw [hok] at hC
    have HC := Lib.hid hC
    have HO : Hid (holdersF B t = ofF B t) := Lib.hid (by simp [holdersF, hok])
    have HR := Lib.hid r
    clear hC hok r r0 hsz hW2
    go_enter Try.func51, Try.ntmps51
    go_wp2_with fail
    rw [← HW2.out]
    refine HC.out.mono ?_
    rintro e w1 ⟨rfl, hb1⟩
    have kk := k0.below hb1 k0.lt
    have hB1 := hB0.trans (hb1.mono hB0.size)
    have hO1 := ownsRow_below hO hb1
    clear hb1 k0 hB0 hO
    go_wp2_with fail
    go_loopw [5, 6] (fun v i wr => ∃ k m : Nat, k ≤ B.h.length ∧ i = .int .i64 k ∧ (wr.ownsRow (w.heap.size + 1) 3 1 v m (ints (ofTo B t k)) ∧ Below w.heap.size w wr) ∧ m ≤ k ∧ Bk wr w.heap.size #[.slice A1 B.l.length c1, .slice A2 B.h.length c2, .slice A3 B.w.length c3, .slice A4 B.f.length c4, .int .i64 B.n] 31) (fun _ i _ => B.h.length - (intOf i).toNat)
    case atStart => exact ⟨0, 0, Nat.zero_le _, rfl, ⟨hO1, hB1⟩, Nat.le_refl _, kk⟩
    case round =>
      obtain ⟨k, m, hk, rfl, ⟨hO, hB⟩, hm, kb⟩ := hrel
      clear hO1 hB1 kk
      obtain ⟨t1, -⟩ := kb.at_ 1 (x := .slice A2 B.h.length c2) rfl
      have hlb := kb.lt
      by_cases hlt : k < B.h.length
      · obtain ⟨A, cc, he, -, -, -, hr⟩ := HR.out.h
        injection he with e1 _ e2
        subst e1 e2
        obtain ⟨b, o, rfl, hb, hcell⟩ := hr (by omega)
        obtain ⟨e, hek, hx0, hx1⟩ := p2_at (fun j u hu => (hB.cell (p := ⟨b, o + j, none⟩) hb).trans (hcell j u hu)) hlt
        obtain ⟨ea, eb⟩ := e
        simp only at hx0 hx1
        have hbw : b < wr.heap.size := Nat.lt_of_lt_of_le hb hB.size
        clear hcell hr
        by_cases hq : eb = t
        · have HT : Hid (ofTo B t k ++ [ea] = ofTo B t (k + 1)) := Lib.hid (ofTo_yes hek.out hq).symm
          have hq' : (eb == t) = true := by simp [hq]
          clear hq
          go_wp2_with (at_builtin; refine wpList_append_own _ rfl _ _ 22 rfl (w.heap.size + 1) 3 i (.int .i64 0) 1 8 Try.underlying22 hi hiz0 hiz1 hiz2 rfl (by decide) _ _ _ rfl (hO.alloc _) ⟨wr.heap.size, 0, none⟩ 1 1 [.int .i64 ea] rfl rfl (new_cells _ _ _) (by simp [Value.oneCell']) (by unfold maxLen; omega) (by omega) (by have := hB.size; simp; omega) ?_)
          intro v' w1 hown' hgrow _
          have hB' := (hB.alloc hB.size _).grown hgrow (by have := hB.size; simp; omega) (fun k hk => by have := (hO.lt k hk).1; omega)
          have kn := (kb.alloc (.cells #[.int .i64 ea] 3)).grown hgrow (fun j hj => by have := (hO.lt j hj).1; omega)
          rw [show ints (ofTo B t k) ++ [Value.int .i64 ea] = ints (ofTo B t (k + 1)) by rw [← HT.out]; simp [ints]] at hown'
          clear hgrow
          go_wp2_with fail
          exact ⟨⟨k + 1, m + 1, by omega, by go_num, ⟨hown', hB'⟩, by omega, kn⟩, by simp [intOf]; omega⟩
        · have HT : Hid (ofTo B t (k + 1) = ofTo B t k) := Lib.hid (ofTo_no hek.out hq)
          have hq' : (eb == t) = false := by simp [hq]
          clear hq
          go_wp2_with fail
          exact ⟨⟨k + 1, m, by omega, by go_num, ⟨by rw [HT.out]; exact hO, hB⟩, by omega, kb⟩, by simp [intOf]; omega⟩
      · obtain rfl : k = B.h.length := by omega
        have hmm := hO.1
        rw [ints_len] at hmm
        obtain ⟨bs, h1, h2⟩ := Own.of_owns hO
        rw [ofTo_all] at h1 hmm
        obtain rfl : m = (ofF B t).length := by omega
        have HF := Lib.hid h1
        clear h1 hO hmm
        go_wp2_with fail
        go_ret
        exact ⟨_, bs, rfl, by rw [HO.out]; exact HF.out, fun x hx => by have := h2 x hx; omega, hB⟩
end Go.Proofs.Ytiamkgkhamnaeaa
