/- Contracts of impl.HeldBy and impl.HoldersOf: what the holds give, by a closure. Conditions: the bench's rows can be read and hold numbers of 64 bits; lengths that a law bounds. -/
import Derived.Test.YtaokpfdjbpobpaaN8
namespace Go.Proofs.Ytaokpfdjbpobpaa
set_option maxRecDepth 20000
set_option linter.unusedSimpArgs false
set_option linter.unusedVariables false
open Go.ChangeShapes Go.WideShapes Go.ChangeAt Go.RowKit Go.Maps
set_option linter.unusedVariables false
set_option maxHeartbeats 800000 in
theorem give_HeldBy (p : Nat) (t ea eb : Int) (w : World) (hp : w.cell? ⟨p, 0, none⟩ = some (.int .i64 t)) (hpl : p < w.heap.size) :
    Calls Try.prog 52 #[.agg #[.int .i64 ea, .int .i64 eb], .pointer (some ⟨p, 0, none⟩)] w fun e w' => e = .returned (.tuple #[.int .i64 eb, .bool (ea == t)]) ∧ Below w.heap.size w w' := by
  have hB := (Below.refl w.heap.size w).alloc (Nat.le_refl _) (.cells #[.int .i64 ea, .int .i64 eb] 52)
  have hp' := (hB.cell (p := ⟨p, 0, none⟩) hpl).trans hp
  go_enter Try.func52, Try.ntmps52
  go_wp2_with fail
  go_quiet (fail)
  go_wp2_with fail
  exact bodyPost_ret (v := .tuple #[.int .i64 eb, .bool (ea == t)]) (by simp [results, Try.results52, go_sem]) rfl ⟨rfl, below_more hB _⟩
set_option maxHeartbeats 3200000 in
theorem from_HeldBy (a b c d : Value) (B : Bn) (p : Nat) (t : Int) (w : World) (r : RdBn w a b c d B) (hw : BnR B) (hsz : szBn B ≤ 16777216) (hp : w.cell? ⟨p, 0, none⟩ = some (.int .i64 t)) (hpl : p < w.heap.size) :
    Calls Try.prog 51 #[.agg #[a, b, c, d, .int .i64 B.n], .func (.func 52) #[] #[.pointer (some ⟨p, 0, none⟩)]] w (RetInts (heldF B t) w) := by
  obtain ⟨A1, c1, A2, c2, A3, c3, A4, c4, ⟨rfl, rfl, rfl, rfl⟩, ⟨g1, g2, g3, g4⟩, ⟨k1, k2, k3, k4⟩⟩ := r.slices
  obtain ⟨i, hi, hiz0, hiz1, hiz2⟩ := info_parts infoInt
  have hB0 := (Below.refl w.heap.size w).alloc (Nat.le_refl _) (.cells #[.slice A1 B.l.length c1, .slice A2 B.h.length c2, .slice A3 B.w.length c3, .slice A4 B.f.length c4, .int .i64 B.n] 30)
  have k0 := Bk.new w #[.slice A1 B.l.length c1, .slice A2 B.h.length c2, .slice A3 B.w.length c3, .slice A4 B.f.length c4, .int .i64 B.n] 30
  have hC := impl_BenchOk _ _ _ _ B _ (r.below hB0) hw hsz
  have hbs : B.h.length ≤ 16777216 := by unfold szBn at hsz; omega
  cases hok : bnOk B
  · rw [hok] at hC
    have HC := Lib.hid hC
    have HO : Hid (heldF B t = []) := Lib.hid (by simp [heldF, hok])
    clear hC hok r hsz hw
    go_enter Try.func51, Try.ntmps51
    go_wp2_with (go_at_call 15; refine HC.out.mono ?_; rintro e w1 ⟨rfl, hb1⟩)
    go_ret
    exact ⟨_, [], rfl, by rw [HO.out]; exact Own.nil _ _, by simp, hB0.trans (hb1.mono hB0.size)⟩
  · rw [hok] at hC
    have HC := Lib.hid hC
    have HO : Hid (heldF B t = byF B t) := Lib.hid (by simp [heldF, hok])
    have HR := Lib.hid r
    clear hC hok r hsz hw
    go_enter Try.func51, Try.ntmps51
    go_wp2_with (go_at_call 15; refine HC.out.mono ?_; rintro e w1 ⟨rfl, hb1⟩; obtain ⟨t1, -⟩ := (k0.below hb1 k0.lt).at_ 1 (x := .slice A2 B.h.length c2) rfl)
    have hB1 := hB0.trans (hb1.mono hB0.size)
    clear hb1 k0 hB0
    go_loopw [5, 16] (fun v i wr => ∃ k m : Nat, k ≤ B.h.length ∧ i = .int .i64 k ∧ (wr.ownsRow w.heap.size 3 1 v m (ints (byTo B t k)) ∧ Below w.heap.size w wr) ∧ m ≤ k) (fun _ i _ => B.h.length - (intOf i).toNat)
    case atStart => exact ⟨0, 0, Nat.zero_le _, rfl, ⟨⟨rfl, .inl ⟨rfl, rfl⟩⟩, hB1⟩, Nat.le_refl _⟩
    case round =>
      obtain ⟨k, m, hk, rfl, ⟨hO, hB⟩, hm⟩ := hrel
      clear hB1
      by_cases hlt : k < B.h.length
      · obtain ⟨A, cc, he, -, -, -, hr⟩ := HR.out.h
        injection he with e1 _ e2
        subst e1 e2
        obtain ⟨b, o, rfl, hb, hcell⟩ := hr (by omega)
        obtain ⟨e, hek, hx0, hx1⟩ := p2_at (fun j u hu => (hB.cell (p := ⟨b, o + j, none⟩) hb).trans (hcell j u hu)) hlt
        obtain ⟨ea, eb⟩ := e
        simp only at hx0 hx1
        have hbw : b < wr.heap.size := Nat.lt_of_lt_of_le hb hB.size
        have hBa := hB.alloc hB.size (.cells #[.int .i64 ea, .int .i64 eb] 52)
        have hG := give_HeldBy p t ea eb (wr.alloc (.cells #[.int .i64 ea, .int .i64 eb] 52)) ((hBa.cell (p := ⟨p, 0, none⟩) hpl).trans hp) (Nat.lt_of_lt_of_le hpl hBa.size)
        have hOa := hO.alloc (.cells #[.int .i64 ea, .int .i64 eb] 52)
        have hsz0 : w.heap.size ≤ wr.heap.size := hB.size
        clear hcell hr hB hO
        by_cases hq : ea = t
        · have HT : Hid (byTo B t k ++ [eb] = byTo B t (k + 1)) := Lib.hid (byTo_yes hek.out hq).symm
          rw [show (ea == t) = true by simp [hq]] at hG
          have HG := Lib.hid hG
          clear hq hG
          go_wp2_with (first
            | (go_at_call 52; refine HG.out.mono ?_; rintro e w1 ⟨rfl, hb1⟩; have hOb := ownsRow_below hOa hb1; have hBb := hBa.trans (hb1.mono hBa.size); have hszb := hBb.size)
            | (at_builtin; refine wpList_append_own _ rfl _ _ 22 rfl w.heap.size 3 i (.int .i64 0) 1 8 Try.underlying22 hi hiz0 hiz1 hiz2 rfl (by decide) _ _ _ rfl (hOb.alloc _) ⟨w1.heap.size, 0, none⟩ 1 1 [.int .i64 eb] rfl rfl (new_cells _ _ _) (by simp [Value.oneCell']) (by unfold maxLen; omega) (by omega) (by simp; omega) ?_; intro v' w2 hown' hgrow _))
          have hB' := (hBb.alloc hBb.size _).grown hgrow (by simp; omega) (fun k hk => by have := (hOb.lt k hk).1; omega)
          rw [show ints (byTo B t k) ++ [Value.int .i64 eb] = ints (byTo B t (k + 1)) by rw [← HT.out]; simp [ints]] at hown'
          clear hgrow
          go_wp2_with fail
          exact ⟨⟨k + 1, m + 1, by omega, by go_num, ⟨hown', hB'⟩, by omega⟩, by simp [intOf]; omega⟩
        · have HT : Hid (byTo B t (k + 1) = byTo B t k) := Lib.hid (byTo_no hek.out hq)
          rw [show (ea == t) = false by simp [hq]] at hG
          have HG := Lib.hid hG
          clear hq hG
          go_wp2_with (go_at_call 52; refine HG.out.mono ?_; rintro e w1 ⟨rfl, hb1⟩)
          exact ⟨⟨k + 1, m, by omega, by go_num, ⟨by rw [HT.out]; exact ownsRow_below hOa hb1, hBa.trans (hb1.mono hBa.size)⟩, by omega⟩, by simp [intOf]; omega⟩
      · obtain rfl : k = B.h.length := by omega
        have hmm := hO.1
        rw [ints_len] at hmm
        obtain ⟨bs, h1, h2⟩ := Own.of_owns hO
        rw [byTo_all] at h1 hmm
        obtain rfl : m = (byF B t).length := by omega
        have HF := Lib.hid h1
        clear h1 hO hmm
        go_wp2_with fail
        go_ret
        exact ⟨_, bs, rfl, by rw [HO.out]; exact HF.out, h2, hB⟩
set_option maxHeartbeats 800000 in
theorem impl_HeldBy (a b c d : Value) (B : Bn) (t : Int) (w : World) (r : RdBn w a b c d B) (hw : BnR B) (hsz : szBn B ≤ 16777216) :
    Calls Try.prog 20 #[.agg #[a, b, c, d, .int .i64 B.n], .int .i64 t] w (RetInts (heldF B t) w) := by
  obtain ⟨A1, c1, A2, c2, A3, c3, A4, c4, ⟨rfl, rfl, rfl, rfl⟩, -, -⟩ := r.slices
  have hB0 := ((Below.refl w.heap.size w).alloc (Nat.le_refl _) (.cells #[.slice A1 B.l.length c1, .slice A2 B.h.length c2, .slice A3 B.w.length c3, .slice A4 B.f.length c4, .int .i64 B.n] 30)).alloc (by simp) (.cells #[.int .i64 t] 3)
  have kt := Bk.new (w.alloc (.cells #[.slice A1 B.l.length c1, .slice A2 B.h.length c2, .slice A3 B.w.length c3, .slice A4 B.f.length c4, .int .i64 B.n] 30)) #[.int .i64 t] 3
  rw [World.size_alloc] at kt
  have hF := from_HeldBy _ _ _ _ B (w.heap.size + 1) t _ (r.below hB0) hw hsz (kt.at_ 0 rfl).1 kt.lt
  have HF := Lib.hid hF
  have HB := Lib.hid hB0
  clear hF r hw hsz hB0
  go_enter Try.func20, Try.ntmps20
  go_wp2_with fail
  refine HF.out.mono ?_
  rintro e w1 ⟨v1, bs, rfl, ho, lo, hb1⟩
  go_wp2_with fail
  go_ret
  exact ⟨_, bs, rfl, ho, fun x hx => Nat.le_trans HB.out.size (lo x hx), HB.out.trans (hb1.mono HB.out.size)⟩
set_option maxHeartbeats 800000 in
theorem give_HoldersOf (p : Nat) (t ea eb : Int) (w : World) (hp : w.cell? ⟨p, 0, none⟩ = some (.int .i64 t)) (hpl : p < w.heap.size) :
    Calls Try.prog 54 #[.agg #[.int .i64 ea, .int .i64 eb], .pointer (some ⟨p, 0, none⟩)] w fun e w' => e = .returned (.tuple #[.int .i64 ea, .bool (eb == t)]) ∧ Below w.heap.size w w' := by
  have hB := (Below.refl w.heap.size w).alloc (Nat.le_refl _) (.cells #[.int .i64 ea, .int .i64 eb] 52)
  have hp' := (hB.cell (p := ⟨p, 0, none⟩) hpl).trans hp
  go_enter Try.func54, Try.ntmps54
  go_wp2_with fail
  go_quiet (fail)
  go_wp2_with fail
  exact bodyPost_ret (v := .tuple #[.int .i64 ea, .bool (eb == t)]) (by simp [results, Try.results54, go_sem]) rfl ⟨rfl, below_more hB _⟩
set_option maxHeartbeats 3200000 in
theorem from_HoldersOf (a b c d : Value) (B : Bn) (p : Nat) (t : Int) (w : World) (r : RdBn w a b c d B) (hw : BnR B) (hsz : szBn B ≤ 16777216) (hp : w.cell? ⟨p, 0, none⟩ = some (.int .i64 t)) (hpl : p < w.heap.size) :
    Calls Try.prog 51 #[.agg #[a, b, c, d, .int .i64 B.n], .func (.func 54) #[] #[.pointer (some ⟨p, 0, none⟩)]] w (RetInts (holdersF B t) w) := by
  obtain ⟨A1, c1, A2, c2, A3, c3, A4, c4, ⟨rfl, rfl, rfl, rfl⟩, ⟨g1, g2, g3, g4⟩, ⟨k1, k2, k3, k4⟩⟩ := r.slices
  obtain ⟨i, hi, hiz0, hiz1, hiz2⟩ := info_parts infoInt
  have hB0 := (Below.refl w.heap.size w).alloc (Nat.le_refl _) (.cells #[.slice A1 B.l.length c1, .slice A2 B.h.length c2, .slice A3 B.w.length c3, .slice A4 B.f.length c4, .int .i64 B.n] 30)
  have k0 := Bk.new w #[.slice A1 B.l.length c1, .slice A2 B.h.length c2, .slice A3 B.w.length c3, .slice A4 B.f.length c4, .int .i64 B.n] 30
  have hC := impl_BenchOk _ _ _ _ B _ (r.below hB0) hw hsz
  have hbs : B.h.length ≤ 16777216 := by unfold szBn at hsz; omega
  cases hok : bnOk B
  · rw [hok] at hC
    have HC := Lib.hid hC
    have HO : Hid (holdersF B t = []) := Lib.hid (by simp [holdersF, hok])
    clear hC hok r hsz hw
    go_enter Try.func51, Try.ntmps51
    go_wp2_with (go_at_call 15; refine HC.out.mono ?_; rintro e w1 ⟨rfl, hb1⟩)
    go_ret
    exact ⟨_, [], rfl, by rw [HO.out]; exact Own.nil _ _, by simp, hB0.trans (hb1.mono hB0.size)⟩
  · rw [hok] at hC
    have HC := Lib.hid hC
    have HO : Hid (holdersF B t = ofF B t) := Lib.hid (by simp [holdersF, hok])
    have HR := Lib.hid r
    clear hC hok r hsz hw
    go_enter Try.func51, Try.ntmps51
    go_wp2_with (go_at_call 15; refine HC.out.mono ?_; rintro e w1 ⟨rfl, hb1⟩; obtain ⟨t1, -⟩ := (k0.below hb1 k0.lt).at_ 1 (x := .slice A2 B.h.length c2) rfl)
    have hB1 := hB0.trans (hb1.mono hB0.size)
    clear hb1 k0 hB0
    go_loopw [5, 16] (fun v i wr => ∃ k m : Nat, k ≤ B.h.length ∧ i = .int .i64 k ∧ (wr.ownsRow w.heap.size 3 1 v m (ints (ofTo B t k)) ∧ Below w.heap.size w wr) ∧ m ≤ k) (fun _ i _ => B.h.length - (intOf i).toNat)
    case atStart => exact ⟨0, 0, Nat.zero_le _, rfl, ⟨⟨rfl, .inl ⟨rfl, rfl⟩⟩, hB1⟩, Nat.le_refl _⟩
    case round =>
      obtain ⟨k, m, hk, rfl, ⟨hO, hB⟩, hm⟩ := hrel
      clear hB1
      by_cases hlt : k < B.h.length
      · obtain ⟨A, cc, he, -, -, -, hr⟩ := HR.out.h
        injection he with e1 _ e2
        subst e1 e2
        obtain ⟨b, o, rfl, hb, hcell⟩ := hr (by omega)
        obtain ⟨e, hek, hx0, hx1⟩ := p2_at (fun j u hu => (hB.cell (p := ⟨b, o + j, none⟩) hb).trans (hcell j u hu)) hlt
        obtain ⟨ea, eb⟩ := e
        simp only at hx0 hx1
        have hbw : b < wr.heap.size := Nat.lt_of_lt_of_le hb hB.size
        have hBa := hB.alloc hB.size (.cells #[.int .i64 ea, .int .i64 eb] 52)
        have hG := give_HoldersOf p t ea eb (wr.alloc (.cells #[.int .i64 ea, .int .i64 eb] 52)) ((hBa.cell (p := ⟨p, 0, none⟩) hpl).trans hp) (Nat.lt_of_lt_of_le hpl hBa.size)
        have hOa := hO.alloc (.cells #[.int .i64 ea, .int .i64 eb] 52)
        have hsz0 : w.heap.size ≤ wr.heap.size := hB.size
        clear hcell hr hB hO
        by_cases hq : eb = t
        · have HT : Hid (ofTo B t k ++ [ea] = ofTo B t (k + 1)) := Lib.hid (ofTo_yes hek.out hq).symm
          rw [show (eb == t) = true by simp [hq]] at hG
          have HG := Lib.hid hG
          clear hq hG
          go_wp2_with (first
            | (go_at_call 54; refine HG.out.mono ?_; rintro e w1 ⟨rfl, hb1⟩; have hOb := ownsRow_below hOa hb1; have hBb := hBa.trans (hb1.mono hBa.size); have hszb := hBb.size)
            | (at_builtin; refine wpList_append_own _ rfl _ _ 22 rfl w.heap.size 3 i (.int .i64 0) 1 8 Try.underlying22 hi hiz0 hiz1 hiz2 rfl (by decide) _ _ _ rfl (hOb.alloc _) ⟨w1.heap.size, 0, none⟩ 1 1 [.int .i64 ea] rfl rfl (new_cells _ _ _) (by simp [Value.oneCell']) (by unfold maxLen; omega) (by omega) (by simp; omega) ?_; intro v' w2 hown' hgrow _))
          have hB' := (hBb.alloc hBb.size _).grown hgrow (by simp; omega) (fun k hk => by have := (hOb.lt k hk).1; omega)
          rw [show ints (ofTo B t k) ++ [Value.int .i64 ea] = ints (ofTo B t (k + 1)) by rw [← HT.out]; simp [ints]] at hown'
          clear hgrow
          go_wp2_with fail
          exact ⟨⟨k + 1, m + 1, by omega, by go_num, ⟨hown', hB'⟩, by omega⟩, by simp [intOf]; omega⟩
        · have HT : Hid (ofTo B t (k + 1) = ofTo B t k) := Lib.hid (ofTo_no hek.out hq)
          rw [show (eb == t) = false by simp [hq]] at hG
          have HG := Lib.hid hG
          clear hq hG
          go_wp2_with (go_at_call 54; refine HG.out.mono ?_; rintro e w1 ⟨rfl, hb1⟩)
          exact ⟨⟨k + 1, m, by omega, by go_num, ⟨by rw [HT.out]; exact ownsRow_below hOa hb1, hBa.trans (hb1.mono hBa.size)⟩, by omega⟩, by simp [intOf]; omega⟩
      · obtain rfl : k = B.h.length := by omega
        have hmm := hO.1
        rw [ints_len] at hmm
        obtain ⟨bs, h1, h2⟩ := Own.of_owns hO
        rw [ofTo_all] at h1 hmm
        obtain rfl : m = (ofF B t).length := by omega
        have HF := Lib.hid h1
        clear h1 hO hmm
        go_wp2_with fail
        go_ret
        exact ⟨_, bs, rfl, by rw [HO.out]; exact HF.out, h2, hB⟩
set_option maxHeartbeats 800000 in
theorem impl_HoldersOf (a b c d : Value) (B : Bn) (t : Int) (w : World) (r : RdBn w a b c d B) (hw : BnR B) (hsz : szBn B ≤ 16777216) :
    Calls Try.prog 26 #[.agg #[a, b, c, d, .int .i64 B.n], .int .i64 t] w (RetInts (holdersF B t) w) := by
  obtain ⟨A1, c1, A2, c2, A3, c3, A4, c4, ⟨rfl, rfl, rfl, rfl⟩, -, -⟩ := r.slices
  have hB0 := ((Below.refl w.heap.size w).alloc (Nat.le_refl _) (.cells #[.slice A1 B.l.length c1, .slice A2 B.h.length c2, .slice A3 B.w.length c3, .slice A4 B.f.length c4, .int .i64 B.n] 30)).alloc (by simp) (.cells #[.int .i64 t] 3)
  have kt := Bk.new (w.alloc (.cells #[.slice A1 B.l.length c1, .slice A2 B.h.length c2, .slice A3 B.w.length c3, .slice A4 B.f.length c4, .int .i64 B.n] 30)) #[.int .i64 t] 3
  rw [World.size_alloc] at kt
  have hF := from_HoldersOf _ _ _ _ B (w.heap.size + 1) t _ (r.below hB0) hw hsz (kt.at_ 0 rfl).1 kt.lt
  have HF := Lib.hid hF
  have HB := Lib.hid hB0
  clear hF r hw hsz hB0
  go_enter Try.func26, Try.ntmps26
  go_wp2_with fail
  refine HF.out.mono ?_
  rintro e w1 ⟨v1, bs, rfl, ho, lo, hb1⟩
  go_wp2_with fail
  go_ret
  exact ⟨_, bs, rfl, ho, fun x hx => Nat.le_trans HB.out.size (lo x hx), HB.out.trans (hb1.mono HB.out.size)⟩
end Go.Proofs.Ytaokpfdjbpobpaa
