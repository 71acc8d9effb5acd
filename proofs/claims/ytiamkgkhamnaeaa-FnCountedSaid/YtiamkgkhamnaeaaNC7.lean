/- Pure: what a script of the reference-counting scheme leaves and tells. Contract of PlayCount of package impl. Condition: the operations can be read. -/
import Derived.Test.YtiamkgkhamnaeaaNC4
namespace Go.Proofs.Ytiamkgkhamnaeaa
set_option maxRecDepth 20000
set_option linter.unusedSimpArgs false
set_option linter.unusedVariables false
open Go.ChangeShapes Go.WideShapes Go.ChangeAt Go.RowKit
set_option linter.unusedVariables false
def bn0 : Bn := ⟨[], [], [], [], 1⟩
def pl (ops : List O3) : Bn × List Int := ops.foldl (fun s o => (stepBn s.1 o, s.2 ++ [stepR s.1 o])) (bn0, [])
def playB (ops : List O3) : Bn := if 300 < ops.length then ⟨[], [], [], [], 0⟩ else (pl ops).1
def playR (ops : List O3) : List Int := if 300 < ops.length then [] else (pl ops).2
theorem pl_nil : pl [] = (bn0, []) := rfl
theorem pl_snoc {ops : List O3} {k : Nat} {o : O3} (h : ops[k]? = some o) : pl (ops.take (k + 1)) = (stepBn (pl (ops.take k)).1 o, (pl (ops.take k)).2 ++ [stepR (pl (ops.take k)).1 o]) := by
  rw [List.take_add_one, h]
  unfold pl
  rw [Option.toList_some, List.foldl_append]
  rfl
theorem bn0_ok : bnOk bn0 = true := by decide
theorem pl_ok (ops : List O3) (k : Nat) : bnOk (pl (ops.take k)).1 = true ∧ (pl (ops.take k)).2.length = min k ops.length := by
  induction k with
  | zero => exact ⟨bn0_ok, by simp [pl]⟩
  | succ k ih =>
    cases h : ops[k]? with
    | none =>
      have hl : ops.length ≤ k := List.getElem?_eq_none_iff.1 h
      rw [List.take_of_length_le (by omega)] at ih ⊢
      exact ⟨ih.1, by rw [ih.2]; omega⟩
    | some o =>
      have hk : k < ops.length := (List.getElem?_eq_some_iff.1 h).1
      rw [pl_snoc h]
      exact ⟨step_ok o ih.1, by simp [ih.2]; omega⟩
theorem pl_len (ops : List O3) : (pl ops).2.length = ops.length := by
  have := (pl_ok ops ops.length).2
  rw [List.take_length] at this
  omega
theorem play_ok (ops : List O3) (h : ops.length ≤ 300) : bnOk (playB ops) = true := by
  have := (pl_ok ops ops.length).1
  rw [List.take_length] at this
  unfold playB
  rw [if_neg (by omega)]
  exact this
/-- returns a bench and a row of integers, both its own and apart -/
def RetBI (B : Bn) (L : List Int) (w : World) (e : Ending) (w' : World) : Prop :=
  ∃ a b c d bs v ds, e = .returned (.tuple #[.agg #[a, b, c, d, .int .i64 B.n], v]) ∧ OwnBn w' a b c d B bs ∧ Own w' v 1 L.length (ints L) ds ∧ (∀ y ∈ bs, w.heap.size ≤ y) ∧ (∀ y ∈ ds, w.heap.size ≤ y) ∧ (∀ y ∈ bs, y ∉ ds) ∧ Below w.heap.size w w'
theorem own0 (w : World) : OwnBn w (.slice none 0 0) (.slice none 0 0) (.slice none 0 0) (.slice none 0 0) bn0 [] :=
  ⟨[], [], [], [], ⟨Own.nil _ _, Own.nil _ _, Own.nil _ _, Own.nil _ _⟩, ⟨by simp, by simp, by simp⟩, rfl⟩
theorem own_empty {w : World} {a b c d : Value} {bs : List Nat} {n : Int} (h : OwnBn w a b c d ⟨[], [], [], [], n⟩ bs) : bs = [] := by
  obtain ⟨b1, b2, b3, b4, ⟨h1, h2, h3, h4⟩, -, rfl⟩ := h
  have e : ∀ {v : Value} {size : Nat} {l : List Nat}, Own w v size 0 [] l → l = [] := by
    rintro v size l ⟨A, c, -, -, -, -, ⟨-, rfl⟩ | ⟨h, -⟩⟩
    · rfl
    · omega
  rw [e h1, e h2, e h3, e h4]
  rfl
theorem CdR.far {w : World} {g lo q i : Nat} {B : Bn} {R : List Int} (h : CdR w g lo B R) (hg : g ≠ q) (hq : q < lo) (u : Value) : CdR (w.setCell ⟨q, i, none⟩ u) g lo B R := by
  obtain ⟨a, b, c, d, bs, h1, h2, h3⟩ := h
  exact ⟨a, b, c, d, bs, h1.far (p := ⟨q, i, none⟩) hg u, h2.far (fun x hx => by have := (h3 x hx).1; omega), h3⟩
def toldK (ops : List O3) (k : Nat) : List Int := (pl (ops.take k)).2 ++ List.replicate (ops.length - k) 0
theorem toldK_zero (ops : List O3) : toldK ops 0 = List.replicate ops.length 0 := by simp [toldK, pl]
theorem toldK_all (ops : List O3) : toldK ops ops.length = (pl ops).2 := by simp [toldK]
theorem toldK_len (ops : List O3) (k : Nat) (hk : k ≤ ops.length) : (toldK ops k).length = ops.length := by
  have := (pl_ok ops k).2
  simp [toldK, this]
  omega
theorem toldK_set {ops : List O3} {k : Nat} {o : O3} (h : ops[k]? = some o) : (toldK ops k).set k (stepR (pl (ops.take k)).1 o) = toldK ops (k + 1) := by
  have hk : k < ops.length := (List.getElem?_eq_some_iff.1 h).1
  have hl := (pl_ok ops k).2
  unfold toldK
  rw [pl_snoc h, List.set_append, if_neg (by omega), show k - (pl (ops.take k)).2.length = 0 by omega, show ops.length - k = (ops.length - (k + 1)) + 1 by omega, List.replicate_succ, List.set_cons_zero]
  simp
set_option maxHeartbeats 3200000 in
theorem impl_PlayCount (v : Value) (ops : List O3) (w : World) (h : Rd w v 3 ops.length (flc3 ops)) :
    Calls Try.prog 20 #[v] w (RetBI (playB ops) (playR ops) w) := by
  obtain ⟨A, c, rfl, -, hnc, hc, hr⟩ := h
  unfold maxLen at hc
  have hB0 := (Below.refl w.heap.size w).alloc (Nat.le_refl _) (.cells #[.slice none 0 0, .slice none 0 0, .slice none 0 0, .slice none 0 0, .int .i64 0] 31)
  have r0 := Bk.new w #[.slice none 0 0, .slice none 0 0, .slice none 0 0, .slice none 0 0, .int .i64 0] 31
  by_cases hbig : 300 < ops.length
  · have HP : Hid (playB ops = ⟨[], [], [], [], 0⟩ ∧ playR ops = []) := Lib.hid (by unfold playB playR; rw [if_pos hbig, if_pos hbig]; exact ⟨rfl, rfl⟩)
    go_enter Try.func20, Try.ntmps20
    go_wp2_with fail
    obtain ⟨⟨zz0, zz1, zz2, zz3, zz4⟩, -⟩ := five r0
    refine bodyPost_ret (v := .tuple #[.agg #[.slice none 0 0, .slice none 0 0, .slice none 0 0, .slice none 0 0, .int .i64 0], .slice none 0 0]) (by simp [results, Try.results20, go_sem, zz0, zz1, zz2, zz3, zz4]) rfl ?_
    rw [HP.out.1, HP.out.2]
    exact ⟨_, _, _, _, [], _, [], rfl, ⟨[], [], [], [], ⟨Own.nil _ _, Own.nil _ _, Own.nil _ _, Own.nil _ _⟩, ⟨by simp, by simp, by simp⟩, rfl⟩, Own.nil _ _, by simp, by simp, by simp, hB0⟩
  · obtain ⟨i, hi, hz0, hz1, hz2⟩ := info_parts infoInt
    have hbn : ops.length ≤ 300 := by omega
    have HNC := Lib.hid (impl_newCounted _ _ _ _ bn0 _ (own0 (w.alloc (.cells #[.slice none 0 0, .slice none 0 0, .slice none 0 0, .slice none 0 0, .int .i64 0] 31))).rd bn0_ok)
    go_enter Try.func20, Try.ntmps20
    go_wp2_with (first
      | (go_at_call 60; refine HNC.out.mono ?_; rintro e w1 ⟨g, rfl, hcd, hg, hb1⟩)
      | (at_make; refine wpList_make_full _ rfl _ _ 22 rfl w1.heap.size 3 i (.int .i64 0) 1 Try.underlying22 hi hz0 hz1 _ _ _ _ ops.length rfl rfl rfl rfl (by rw [hz2]; omega) (by unfold maxLen; omega) (Nat.le_refl _) ?_; intro w2 hown hg2))
    have hgl := hcd.lt
    have hB2' := hb1.grown hg2 hb1.size (by simp)
    have hg2' : Below w1.heap.size w1 w2 := (Below.refl _ _).grown hg2 (Nat.le_refl _) (by simp)
    have hB2 := hB0.trans (hB2'.mono hB0.size)
    have hz1 := hb1.size
    simp only [World.size_alloc] at hz1 hg
    have r2 := r0.below hB2' (by simp)
    have hCd : Cd w2 g (w1.heap.size + 1) (pl (ops.take 0)).1 := by
      obtain ⟨x1, x2, x3, x4, bs, k1, o1, -⟩ := hcd
      have hbs : bs = [] := own_empty o1
      subst hbs
      exact ⟨x1, x2, x3, x4, [], k1.below hg2' k1.lt, o1.below hg2', by simp⟩
    have hRow : w2.ownsRow w1.heap.size 3 1 (.slice (some ⟨w1.heap.size, 0, none⟩) ops.length ops.length) ops.length (ints (toldK ops 0)) := by
      rw [show (Value.int IntKind.i64 0).cells = #[Value.int IntKind.i64 0] from rfl, Nat.mul_one, toList_madeCells_one] at hown
      rw [toldK_zero]
      simpa [ints] using hown
    have hl2 : w1.heap.size < w2.heap.size := (hRow.lt _ rfl).2
    clear hown hcd hb1 hB2' hg2 hg2' r0 hB0 HNC
    go_loopw [19] (fun iv wr => ∃ k : Nat, k ≤ ops.length ∧ iv = .int .i64 k ∧ wr.ownsRow w1.heap.size 3 1 (.slice (some ⟨w1.heap.size, 0, none⟩) ops.length ops.length) ops.length (ints (toldK ops k)) ∧ Hid (Cd wr g (w1.heap.size + 1) (pl (ops.take k)).1) ∧ Below w.heap.size w wr ∧ Bk wr w.heap.size #[.slice none 0 0, .slice none 0 0, .slice none 0 0, .slice none 0 0, .int .i64 0] 31 ∧ w1.heap.size < wr.heap.size) (fun iv _ => ops.length - (intOf iv).toNat)
    case atStart => exact ⟨0, Nat.zero_le _, rfl, hRow, Lib.hid hCd, hB2, r2, hl2⟩
    case round =>
      obtain ⟨k, hk, rfl, hO, HCD, hB, kr, hl⟩ := hrel
      clear hRow hCd hB2 r2 hl2
      by_cases hlt : k < ops.length
      · obtain ⟨b, o, rfl, hb, hcell⟩ := hr (by omega)
        obtain ⟨q, hqk, hx0, hx1, hx2⟩ := o3_at (fun j u hu => (hB.cell (p := ⟨b, o + j, none⟩) hb).trans (hcell j u hu)) hlt
        have hok := (pl_ok ops k).1
        have hbA := (Below.refl wr.heap.size wr).alloc (Nat.le_refl _) (.cells #[.int .i64 q.k, .int .i64 q.t, .int .i64 q.x] 35)
        have HDO := Lib.hid (impl_do g (w1.heap.size + 1) _ q _ (HCD.out.below hbA) hok (by have := hbA.size; omega))
        have HQ := Lib.hid hqk.out
        clear hcell hr hok hqk
        go_wp2_with (go_at_call 61; refine HDO.out.mono ?_; rintro e w4 ⟨rfl, hcd, hon⟩; have hO4 := owns_ne (ownsRow_below hO hbA) (fun e9 => by have e8 := Option.some.inj (show some w1.heap.size = some g from e9); omega) hon; have hc4 := (hO4.cellAt k (by omega)).trans (ints_at (by rw [toldK_len ops k hk]; exact hlt)); have hf4 := hO4.frozenAt k)
        have hon' := (Only.of_below hbA [g]).trans hon
        have hO5 := (hO4.stored k (.int .i64 (stepR (pl (ops.take k)).1 q))).1
        rw [ints_set, toldK_set HQ.out] at hO5
        have hCN : Hid (Cd (w4.setCell ⟨w1.heap.size, k, none⟩ (.int .i64 (stepR (pl (ops.take k)).1 q))) g (w1.heap.size + 1) (pl (ops.take (k + 1))).1) := Lib.hid (by
          rw [pl_snoc HQ.out]
          exact hcd.far (by omega) (by omega) _)
        have hs4 := hon'.size
        have hB4 := hB.trans (hon'.below (B := w.heap.size) hB.size (by simp; omega))
        exact ⟨⟨k + 1, by omega, by go_num, hO5, hCN, hB4.setCell (p := ⟨w1.heap.size, k, none⟩) (by show w.heap.size ≤ w1.heap.size; omega) _, (kr.only hon' (by simp; omega)).far (p := ⟨w1.heap.size, k, none⟩) (by simp; omega) _, by simp [World.setCell]; omega⟩, by simp [intOf]; omega⟩
      · obtain rfl : k = ops.length := by omega
        rw [toldK_all] at hO
        rw [List.take_length] at HCD
        have HP : Hid (playB ops = (pl ops).1 ∧ playR ops = (pl ops).2) := Lib.hid (by unfold playB playR; rw [if_neg (by omega), if_neg (by omega)]; exact ⟨rfl, rfl⟩)
        obtain ⟨x1, x2, x3, x4, bs, k1, o1, hbs⟩ := HCD.out
        obtain ⟨D1, d1, D2, d2, D3, d3, D4, d4, rfl, rfl, rfl, rfl⟩ := o1.formV
        obtain ⟨⟨e0, e1, e2, e3, e4⟩, -⟩ := cdA_five k1
        obtain ⟨⟨f0, f1, f2, f3, f4⟩, g0, g1, g2, g3, g4⟩ := five kr
        have HO := Lib.hid hO
        clear hO HCD
        go_wp2_with fail
        have qF := kr.set5 (.slice D1 (pl ops).1.l.length d1) (.slice D2 (pl ops).1.h.length d2) (.slice D3 (pl ops).1.w.length d3) (.slice D4 (pl ops).1.f.length d4) (.int .i64 (pl ops).1.n)
        obtain ⟨⟨zz0, zz1, zz2, zz3, zz4⟩, -⟩ := five qF
        refine bodyPost_ret (v := .tuple #[.agg #[.slice D1 (pl ops).1.l.length d1, .slice D2 (pl ops).1.h.length d2, .slice D3 (pl ops).1.w.length d3, .slice D4 (pl ops).1.f.length d4, .int .i64 (pl ops).1.n], .slice (some ⟨w1.heap.size, 0, none⟩) ops.length ops.length]) (by simp [results, Try.results20, go_sem, zz0, zz1, zz2, zz3, zz4]) rfl ?_
        rw [HP.out.1, HP.out.2]
        obtain ⟨ds, hds, hdl⟩ := own_of_typed HO.out
        have hd1 : ∀ y ∈ ds, y = w1.heap.size := fun y hy => by have := hdl y hy; injection this with this; exact this.symm
        rw [show ops.length = (pl ops).2.length from (pl_len ops).symm] at hds
        refine ⟨_, _, _, _, bs, _, ds, rfl, o1.only (only_set5 wr w.heap.size _ _ _ _ _) (fun y hy hm => by have := (hbs y hy).1; have := List.mem_singleton.1 hm; omega), ?_, fun y hy => by have := (hbs y hy).1; omega, fun y hy => by have := hd1 y hy; omega, fun y hy hm => by have := (hbs y hy).1; have := hd1 y hm; omega, below_set5 hB (Nat.le_refl _) _ _ _ _ _⟩
        rw [pl_len] at hds ⊢
        exact hds.only (only_set5 wr w.heap.size _ _ _ _ _) (fun y hy hm => by have := hd1 y hy; have := List.mem_singleton.1 hm; omega)
end Go.Proofs.Ytiamkgkhamnaeaa
