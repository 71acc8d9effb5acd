/- Contracts of the methods of impl's counted bench: release, create, take, drop, cut, do. Condition: the counted bench is valid and stands whole at a block, its rows in blocks of their own. -/
import Derived.Test.YtiamkgkhamnaeaaNC1
import Derived.Test.YtiamkgkhamnaeaaN13
import Derived.Test.YtiamkgkhamnaeaaN15
import Derived.Test.YtiamkgkhamnaeaaN17
import Derived.Test.YtiamkgkhamnaeaaN18
namespace Go.Proofs.Ytiamkgkhamnaeaa
set_option maxRecDepth 20000
set_option linter.unusedSimpArgs false
set_option linter.unusedVariables false
open Go.ChangeShapes Go.WideShapes Go.ChangeAt Go.RowKit
set_option linter.unusedVariables false
/-- returns r, and the counted bench now stands for B -/
def RetCd (g lo : Nat) (B : Bn) (r : Int) (w : World) (e : Ending) (w' : World) : Prop := e = .returned (.int .i64 r) ∧ Cd w' g lo B ∧ Only [g] w w'
theorem OwnBn.formV {w : World} {a b c d : Value} {B : Bn} {bs : List Nat} (h : OwnBn w a b c d B bs) : ∃ A1 c1 A2 c2 A3 c3 A4 c4, a = .slice A1 B.l.length c1 ∧ b = .slice A2 B.h.length c2 ∧ c = .slice A3 B.w.length c3 ∧ d = .slice A4 B.f.length c4 := h.slices
theorem only_set5g (w : World) (g : Nat) (v0 v1 v2 v3 v4 : Value) : Only [g] w (((((w.setCell ⟨g, 0, none⟩ v0).setCell ⟨g, 1, none⟩ v1).setCell ⟨g, 2, none⟩ v2).setCell ⟨g, 3, none⟩ v3).setCell ⟨g, 4, none⟩ v4) := only_set5 w g v0 v1 v2 v3 v4
theorem cd_set5 {w : World} {g : Nat} {t : TypeId} {a b c d a' b' c' d' : Value} {n n' : Int} {R : List Int} (h : Bk w g (cdA a b c d n R) t) :
    Bk (((((w.setCell ⟨g, 0, none⟩ a').setCell ⟨g, 1, none⟩ b').setCell ⟨g, 2, none⟩ c').setCell ⟨g, 3, none⟩ d').setCell ⟨g, 4, none⟩ (.int .i64 n')) g (cdA a' b' c' d' n' R) t := by
  have := ((((h.set_ 0 a').set_ 1 b').set_ 2 c').set_ 3 d').set_ 4 (.int .i64 n')
  rw [cdA_set5] at this
  exact this
def takeR (B : Bn) (t x : Int) : Int := if takeOk B t x then (holdN (takeBn B t x) x : Int) else -1
def dropRel (B : Bn) (t x : Int) : Bn := if dropOk B t x then relBn (dropBn B t x) x else B
def dropRR (B : Bn) (t x : Int) : Int := if dropOk B t x then relR (dropBn B t x) x else -1
def cutRel (B : Bn) (x : Int) : Bn := if cutOk B x then relBn (cutBn B x) x else B
def cutRR (B : Bn) (x : Int) : Int := if cutOk B x then relR (cutBn B x) x else -1
theorem refsF_set {B B' : Bn} {n : Nat} {d : Int} (h : ∀ i : Int, cntR B' i = if i = (n : Int) then cntR B i + d else cntR B i) : (refsF B).set n (cntR B' n) = refsF B' := by
  unfold refsF
  refine refsOf_set (g := fun i : Nat => cntR B' i) (f := fun i : Nat => cntR B i) (fun i _ => ?_)
  have := h i
  by_cases e : (i : Int) = n
  · rw [if_pos (by omega), show i = n by omega]
  · rw [if_neg e] at this
    rw [if_neg (by omega), this]
theorem cnt_free {B : Bn} {l : List Int} (i : Int) : cntR (freeBn B l) i = cntR B i := by
  unfold cntR linkN holdN
  rw [free_same.1, free_same.2]
set_option maxHeartbeats 1600000 in
theorem impl_release (g lo : Nat) (B : Bn) (R : List Int) (x : Nat) (hx : x < 61) (w : World) (h : CdR w g lo B R) (hok : bnOk B = true) (hlo : lo ≤ w.heap.size) (hR : R[x]? = some (cntR B x + 1)) (hS : R.set x (cntR B x) = refsF B) :
    Calls Try.prog 116 #[.pointer (some ⟨g, 0, none⟩), .int .i64 x] w (RetCd g lo (relBn B x) (relR B x) w) := by
  obtain ⟨a, b, c, d, bs, h1, h2, h3⟩ := h
  obtain ⟨A1, c1, A2, c2, A3, c3, A4, c4, rfl, rfl, rfl, rfl⟩ := h2.formV
  have hcl := cnt_le hok x
  have hgl := h1.lt
  obtain ⟨p0, pf0⟩ := h1.at_ (5 + x) (cdA_ref hR)
  have hADD : Hid (Calls Try.prog 99 #[.pointer (some ⟨g, 5 + x, none⟩), .int .i64 (-1)] w fun e w' => e = .returned (.int .i64 (cntR B x)) ∧ w' = w.setCell ⟨g, 5 + x, none⟩ (.int .i64 (cntR B x))) := Lib.hid (by
    have := atomic_add g (5 + x) _ (-1) w p0 pf0 (by omega) (by omega) (by omega) (by omega)
    rw [show cntR B x + 1 + -1 = cntR B x by omega] at this
    exact this)
  have k1 := h1.set_ (5 + x) (.int .i64 (cntR B x))
  rw [cdA_set, hS] at k1
  have hon1 := Only.setCell (b := g) (i := 5 + x) w (.int .i64 (cntR B x))
  have hO1 := h2.only hon1 (fun y hy hm => (h3 y hy).2 (by simpa using hm))
  obtain ⟨W1, hW1⟩ : ∃ W1, W1 = w.setCell ⟨g, 5 + x, none⟩ (.int .i64 (cntR B x)) := ⟨_, rfl⟩
  rw [← hW1] at k1 hon1 hO1 hADD
  have hID := idle_iff (x := x) hok
  by_cases hpos : 0 < cntR B x
  · have HB1 : Hid (relBn B x = B ∧ relR B x = 0) := Lib.hid (by
      unfold relBn relR
      rw [hID, show decide (cntR B x ≤ 0) = false by simp; omega]
      simp)
    clear hID hW1 p0 pf0
    go_enter Try.func116, Try.ntmps116
    go_wp2_with (go_at_call 99; refine hADD.out.mono ?_; rintro e w2 ⟨rfl, rfl⟩)
    go_ret
    refine ⟨ret_int HB1.out.2.symm, ?_, hon1⟩
    rw [HB1.out.1]
    exact ⟨_, _, _, _, bs, k1, hO1, h3⟩
  · have hz1 := hon1.size
    have hz1' := k1.lt
    obtain ⟨⟨e0, e1, e2, e3, e4⟩, -⟩ := cdA_five k1
    have hRd : Rd (W1.alloc (.cells #[.int .i64 x] 3)) (.slice (some ⟨W1.heap.size, 0, none⟩) 1 1) 1 1 (ints [(x : Int)]) := Rd.newInts W1 [(x : Int)] 3 rfl (by omega)
    have hbA := (Below.refl W1.heap.size W1).alloc (Nat.le_refl _) (.cells #[.int .i64 x] 3)
    have HF := Lib.hid (impl_FreeSome _ _ _ _ B _ [(x : Int)] _ (hO1.rd.below hbA) (ok_BnR hok) hRd (by simp) (by intro y hy; rw [List.mem_singleton.1 hy]; simp only [Lit.wf, Bool.and_eq_true, decide_eq_true_eq]; exact ⟨by simp only [IntKind.min, IntKind.signed, IntKind.bits]; omega, by simp only [IntKind.max, IntKind.signed, IntKind.bits]; omega⟩) (by have := ok_sz hok; omega))
    cases hfo : freeOk B [(x : Int)]
    · have HB1 : Hid (relBn B x = B ∧ relR B x = 0) := Lib.hid (by
        unfold relBn relR
        rw [hID, hfo]
        simp)
      rw [hfo] at HF
      clear hID hW1 p0 pf0 hfo
      go_enter Try.func116, Try.ntmps116
      go_wp2_with (first
        | (go_at_call 99; refine hADD.out.mono ?_; rintro e w2 ⟨rfl, rfl⟩)
        | (go_at_call 46; refine HF.out.mono ?_; rintro e w3 ⟨u1, u2, u3, u4, bs3, rfl, hO3, hb3, hl3⟩; obtain ⟨D1, d1, D2, d2, D3, d3, D4, d4, rfl, rfl, rfl, rfl⟩ := hO3.formV))
      go_ret
      have hbB := (hbA.trans (hl3.mono hbA.size)).alloc (by have := hbA.size; have := hl3.size; omega) (.cells #[.slice D1 (freeBn B [(x : Int)]).l.length d1, .slice D2 (freeBn B [(x : Int)]).h.length d2, .slice D3 (freeBn B [(x : Int)]).w.length d3, .slice D4 (freeBn B [(x : Int)]).f.length d4, .int .i64 (freeBn B [(x : Int)]).n] 31)
      refine ⟨ret_int HB1.out.2.symm, ?_, hon1.trans (Only.of_below hbB _)⟩
      rw [HB1.out.1]
      exact CdR.below ⟨_, _, _, _, bs, k1, hO1, h3⟩ hbB
    · have HB1 : Hid (relBn B x = freeBn B [(x : Int)] ∧ relR B x = 1) := Lib.hid (by
        unfold relBn relR
        rw [hID, hfo, show decide (cntR B x ≤ 0) = true by simp; omega]
        simp)
      rw [hfo] at HF
      have HREF : Hid (refsF (freeBn B [(x : Int)]) = refsF B) := Lib.hid (refsOf_congr fun i _ => cnt_free i)
      clear hID hW1 p0 pf0 hfo
      go_enter Try.func116, Try.ntmps116
      go_wp2_with (first
        | (go_at_call 99; refine hADD.out.mono ?_; rintro e w2 ⟨rfl, rfl⟩)
        | (go_at_call 46; refine HF.out.mono ?_; rintro e w3 ⟨u1, u2, u3, u4, bs3, rfl, hO3, hb3, hl3⟩; obtain ⟨D1, d1, D2, d2, D3, d3, D4, d4, rfl, rfl, rfl, rfl⟩ := hO3.formV; have k3 := (k1.below hbA hz1').below hl3 (Nat.lt_of_lt_of_le hz1' hbA.size); obtain ⟨⟨f0, f1, f2, f3, f4⟩, r0, r1, r2, r3, r4⟩ := cdA_five k3; have hgl3 := k3.lt))
      go_ret
      have hbB := hbA.trans (hl3.mono hbA.size)
      have hO3' := hO3.only (only_set5 w3 g (.slice D1 (freeBn B [(x : Int)]).l.length d1) (.slice D2 (freeBn B [(x : Int)]).h.length d2) (.slice D3 (freeBn B [(x : Int)]).w.length d3) (.slice D4 (freeBn B [(x : Int)]).f.length d4) (.int .i64 (freeBn B [(x : Int)]).n)) (fun y hy hm => by have := hb3 y hy; have := List.mem_singleton.1 hm; have := hbA.size; omega)
      have k4 := cd_set5 (a' := .slice D1 (freeBn B [(x : Int)]).l.length d1) (b' := .slice D2 (freeBn B [(x : Int)]).h.length d2) (c' := .slice D3 (freeBn B [(x : Int)]).w.length d3) (d' := .slice D4 (freeBn B [(x : Int)]).f.length d4) (n' := (freeBn B [(x : Int)]).n) k3
      have hon4 := (hon1.trans (Only.of_below hbB [g])).trans (only_set5 w3 g (.slice D1 (freeBn B [(x : Int)]).l.length d1) (.slice D2 (freeBn B [(x : Int)]).h.length d2) (.slice D3 (freeBn B [(x : Int)]).w.length d3) (.slice D4 (freeBn B [(x : Int)]).f.length d4) (.int .i64 (freeBn B [(x : Int)]).n))
      rw [← HREF.out] at k4
      refine ⟨ret_int HB1.out.2.symm, ?_, hon4.trans (Only.of_below ((Below.refl _ _).alloc (Nat.le_refl _) _) _)⟩
      rw [HB1.out.1]
      exact CdR.below ⟨_, _, _, _, bs3, k4, hO3', fun y hy => ⟨by have := hb3 y hy; have := hbA.size; have := hon1.size; omega, by have := hb3 y hy; have := hbA.size; omega⟩⟩ ((Below.refl _ _).alloc (Nat.le_refl _) _)
set_option maxHeartbeats 1600000 in
theorem impl_create (g lo : Nat) (B : Bn) (w : World) (h : Cd w g lo B) (hok : bnOk B = true) (hlo : lo ≤ w.heap.size) :
    Calls Try.prog 100 #[.pointer (some ⟨g, 0, none⟩)] w (RetCd g lo (makeBn B) (makeR B) w) := by
  obtain ⟨a, b, c, d, bs, h1, h2, h3⟩ := h
  obtain ⟨A1, c1, A2, c2, A3, c3, A4, c4, rfl, rfl, rfl, rfl⟩ := h2.formV
  have hgl := h1.lt
  have hsz := ok_sz hok
  have HM := Lib.hid (impl_MakeObj _ _ _ _ B w h2.rd (ok_BnR hok) (by omega))
  obtain ⟨⟨e0, e1, e2, e3, e4⟩, -⟩ := cdA_five h1
  rcases (Bool.eq_false_or_eq_true (makeOk B)).symm with hm | hm
  · have HB1 : Hid ((makeBn B) = B ∧ (makeR B) = -1) := Lib.hid (by exact makeOk_no hm)
    rw [HB1.out.2] at HM
    clear hm
    go_enter Try.func100, Try.ntmps100
    go_wp2_with (go_at_call 36; refine HM.out.mono ?_; rintro e w1 ⟨u1, u2, u3, u4, bs1, rfl, hO1, hb1, hl1⟩; obtain ⟨D1, d1, D2, d2, D3, d3, D4, d4, rfl, rfl, rfl, rfl⟩ := hO1.formV)
    go_ret
    have hbB := hl1.alloc hl1.size (.cells #[.slice D1 (makeBn B).l.length d1, .slice D2 (makeBn B).h.length d2, .slice D3 (makeBn B).w.length d3, .slice D4 (makeBn B).f.length d4, .int .i64 (makeBn B).n] 31)
    refine ⟨ret_int HB1.out.2.symm, ?_, Only.of_below hbB _⟩
    exact Eq.mpr (congrArg (Cd _ g lo) HB1.out.1) (CdR.below ⟨_, _, _, _, bs, h1, h2, h3⟩ hbB)
  · have HM' := Lib.hid hm
    have hnr := (bnOk_iff.1 hok).1
    have hn60 : B.n ≤ 60 := by unfold makeOk at hm; simp at hm; exact hm.2
    obtain ⟨n, hn⟩ : ∃ n : Nat, B.n = n := ⟨B.n.toNat, by omega⟩
    have hn61 : n < 61 := by omega
    have HCN : Hid (∀ i : Int, cntR (makeBn B) i = if i = (n : Int) then cntR B i + 1 else cntR B i) := Lib.hid (fun i => by rw [make_cnt hm i, hn])
    have HB1 : Hid (makeBn B = makeBn B ∧ makeR B = n) := Lib.hid ⟨rfl, by rw [(makeOk_yes hm).2, hn]⟩
    rw [(makeOk_yes hm).2, hn] at HM
    clear hm
    go_enter Try.func100, Try.ntmps100
    go_upto_region 5 with (go_at_call 36; refine HM.out.mono ?_; rintro e w1 ⟨u1, u2, u3, u4, bs1, rfl, hO1, hb1, hl1⟩; obtain ⟨D1, d1, D2, d2, D3, d3, D4, d4, rfl, rfl, rfl, rfl⟩ := hO1.formV; have k1 := h1.below hl1 hgl; obtain ⟨⟨f0, f1, f2, f3, f4⟩, r0, r1, r2, r3, r4⟩ := cdA_five k1; have hgl1 := k1.lt)
    have hO4 := (hO1.only (only_set5 w1 g (.slice D1 (makeBn B).l.length d1) (.slice D2 (makeBn B).h.length d2) (.slice D3 (makeBn B).w.length d3) (.slice D4 (makeBn B).f.length d4) (.int .i64 (makeBn B).n)) (fun y hy hm => by have := hb1 y hy; have := List.mem_singleton.1 hm; omega)).below ((Below.refl _ _).alloc (Nat.le_refl _) (.cells #[.slice D1 (makeBn B).l.length d1, .slice D2 (makeBn B).h.length d2, .slice D3 (makeBn B).w.length d3, .slice D4 (makeBn B).f.length d4, .int .i64 (makeBn B).n] 31))
    have k4 := (cd_set5 (a' := .slice D1 (makeBn B).l.length d1) (b' := .slice D2 (makeBn B).h.length d2) (c' := .slice D3 (makeBn B).w.length d3) (d' := .slice D4 (makeBn B).f.length d4) (n' := (makeBn B).n) k1).alloc (.cells #[.slice D1 (makeBn B).l.length d1, .slice D2 (makeBn B).h.length d2, .slice D3 (makeBn B).w.length d3, .slice D4 (makeBn B).f.length d4, .int .i64 (makeBn B).n] 31)
    have hon4 := ((Only.of_below hl1 [g]).trans (only_set5 w1 g (.slice D1 (makeBn B).l.length d1) (.slice D2 (makeBn B).h.length d2) (.slice D3 (makeBn B).w.length d3) (.slice D4 (makeBn B).f.length d4) (.int .i64 (makeBn B).n))).trans (Only.of_below ((Below.refl _ _).alloc (Nat.le_refl _) (.cells #[.slice D1 (makeBn B).l.length d1, .slice D2 (makeBn B).h.length d2, .slice D3 (makeBn B).w.length d3, .slice D4 (makeBn B).f.length d4, .int .i64 (makeBn B).n] 31)) [g])
    have hown4 : ∀ y ∈ bs1, lo ≤ y ∧ y ≠ g := fun y hy => ⟨by have := hb1 y hy; omega, by have := hb1 y hy; omega⟩
    obtain ⟨W4, hW4⟩ : ∃ W4, W4 = (((((w1.setCell ⟨g, 0, none⟩ (.slice D1 (makeBn B).l.length d1)).setCell ⟨g, 1, none⟩ (.slice D2 (makeBn B).h.length d2)).setCell ⟨g, 2, none⟩ (.slice D3 (makeBn B).w.length d3)).setCell ⟨g, 3, none⟩ (.slice D4 (makeBn B).f.length d4)).setCell ⟨g, 4, none⟩ (.int .i64 (makeBn B).n)).alloc (.cells #[.slice D1 (makeBn B).l.length d1, .slice D2 (makeBn B).h.length d2, .slice D3 (makeBn B).w.length d3, .slice D4 (makeBn B).f.length d4, .int .i64 (makeBn B).n] 31) := ⟨_, rfl⟩
    rw [← hW4] at hO4 k4 hon4
    rw [← hW4]
    clear hW4 f0 f1 f2 f3 f4 r0 r1 r2 r3 r4 e0 e1 e2 e3 e4 hO1 k1 hl1
    have hcl := cnt_le hok (n : Int)
    obtain ⟨p0, pf0⟩ := k4.at_ (5 + n) (cdA_ref (refsOf_at _ hn61))
    have hk4 := k4.lt
    go_wp2_with (go_at_call 99; refine (atomic_add _ _ _ _ _ p0 pf0 (by omega) (by omega) (by omega) (by omega)).mono ?_; rintro e w5 ⟨rfl, rfl⟩)
    go_ret
    have k5 := k4.set_ (5 + n) (.int .i64 (cntR B n + 1))
    have hCN := HCN.out
    rw [cdA_set, show cntR B n + 1 = cntR (makeBn B) n by rw [hCN]; simp, refsF_set hCN] at k5
    refine ⟨ret_int ?_, ?_, hon4.trans ?_⟩
    · have h9 := HB1.out.2
      omega
    · rw [show cntR B n + 1 = cntR (makeBn B) n by rw [hCN]; simp]
      exact ⟨_, _, _, _, bs1, k5, hO4.far (fun y hy => (hown4 y hy).2), hown4⟩
    · exact Only.setCell _ _

set_option maxHeartbeats 1600000 in
theorem impl_take (g lo : Nat) (B : Bn) (t x : Int) (w : World) (h : Cd w g lo B) (hok : bnOk B = true) (hlo : lo ≤ w.heap.size) :
    Calls Try.prog 101 #[.pointer (some ⟨g, 0, none⟩), .int .i64 t, .int .i64 x] w (RetCd g lo (takeBn B t x) (takeR B t x) w) := by
  obtain ⟨a, b, c, d, bs, h1, h2, h3⟩ := h
  obtain ⟨A1, c1, A2, c2, A3, c3, A4, c4, rfl, rfl, rfl, rfl⟩ := h2.formV
  have hgl := h1.lt
  have hsz := ok_sz hok
  have HM := Lib.hid (impl_TakeHold _ _ _ _ B t x w h2.rd (ok_BnR hok) (by omega))
  obtain ⟨⟨e0, e1, e2, e3, e4⟩, -⟩ := cdA_five h1
  rcases (Bool.eq_false_or_eq_true (takeOk B t x)).symm with hm | hm
  · have HB1 : Hid ((takeBn B t x) = B ∧ (takeR B t x) = -1) := Lib.hid (by exact ⟨(takeOk_no hm).1, by unfold takeR; rw [hm]; rfl⟩)
    rw [hm] at HM
    clear hm
    go_enter Try.func101, Try.ntmps101
    go_wp2_with (go_at_call 41; refine HM.out.mono ?_; rintro e w1 ⟨u1, u2, u3, u4, bs1, rfl, hO1, hb1, hl1⟩; obtain ⟨D1, d1, D2, d2, D3, d3, D4, d4, rfl, rfl, rfl, rfl⟩ := hO1.formV)
    go_ret
    have hbB := hl1.alloc hl1.size (.cells #[.slice D1 (takeBn B t x).l.length d1, .slice D2 (takeBn B t x).h.length d2, .slice D3 (takeBn B t x).w.length d3, .slice D4 (takeBn B t x).f.length d4, .int .i64 (takeBn B t x).n] 31)
    refine ⟨ret_int HB1.out.2.symm, ?_, Only.of_below hbB _⟩
    exact Eq.mpr (congrArg (Cd _ g lo) HB1.out.1) (CdR.below ⟨_, _, _, _, bs, h1, h2, h3⟩ hbB)
  · have HM' := Lib.hid hm
    have hxr := (held_range hok).1 x (by have := (takeOk_parts hm).2.2.1; unfold allBn; simp [this])
    obtain ⟨n, rfl⟩ : ∃ n : Nat, x = n := ⟨x.toNat, by omega⟩
    have hn61 : n < 61 := by omega
    have HCN : Hid (∀ i : Int, cntR (takeBn B t n) i = if i = (n : Int) then cntR B i + 1 else cntR B i) := Lib.hid (fun i => take_cnt hm i)
    have HB1 : Hid (takeBn B t n = takeBn B t n ∧ takeR B t n = cntR B n + 1 - 1) := Lib.hid ⟨rfl, by unfold takeR; rw [if_pos HM'.out, ← take_hold HM'.out, HCN.out]; simp⟩
    rw [hm] at HM
    clear hm
    go_enter Try.func101, Try.ntmps101
    go_upto_region 5 with (go_at_call 41; refine HM.out.mono ?_; rintro e w1 ⟨u1, u2, u3, u4, bs1, rfl, hO1, hb1, hl1⟩; obtain ⟨D1, d1, D2, d2, D3, d3, D4, d4, rfl, rfl, rfl, rfl⟩ := hO1.formV; have k1 := h1.below hl1 hgl; obtain ⟨⟨f0, f1, f2, f3, f4⟩, r0, r1, r2, r3, r4⟩ := cdA_five k1; have hgl1 := k1.lt)
    have hO4 := (hO1.only (only_set5 w1 g (.slice D1 (takeBn B t n).l.length d1) (.slice D2 (takeBn B t n).h.length d2) (.slice D3 (takeBn B t n).w.length d3) (.slice D4 (takeBn B t n).f.length d4) (.int .i64 (takeBn B t n).n)) (fun y hy hm => by have := hb1 y hy; have := List.mem_singleton.1 hm; omega)).below ((Below.refl _ _).alloc (Nat.le_refl _) (.cells #[.slice D1 (takeBn B t n).l.length d1, .slice D2 (takeBn B t n).h.length d2, .slice D3 (takeBn B t n).w.length d3, .slice D4 (takeBn B t n).f.length d4, .int .i64 (takeBn B t n).n] 31))
    have k4 := (cd_set5 (a' := .slice D1 (takeBn B t n).l.length d1) (b' := .slice D2 (takeBn B t n).h.length d2) (c' := .slice D3 (takeBn B t n).w.length d3) (d' := .slice D4 (takeBn B t n).f.length d4) (n' := (takeBn B t n).n) k1).alloc (.cells #[.slice D1 (takeBn B t n).l.length d1, .slice D2 (takeBn B t n).h.length d2, .slice D3 (takeBn B t n).w.length d3, .slice D4 (takeBn B t n).f.length d4, .int .i64 (takeBn B t n).n] 31)
    have hon4 := ((Only.of_below hl1 [g]).trans (only_set5 w1 g (.slice D1 (takeBn B t n).l.length d1) (.slice D2 (takeBn B t n).h.length d2) (.slice D3 (takeBn B t n).w.length d3) (.slice D4 (takeBn B t n).f.length d4) (.int .i64 (takeBn B t n).n))).trans (Only.of_below ((Below.refl _ _).alloc (Nat.le_refl _) (.cells #[.slice D1 (takeBn B t n).l.length d1, .slice D2 (takeBn B t n).h.length d2, .slice D3 (takeBn B t n).w.length d3, .slice D4 (takeBn B t n).f.length d4, .int .i64 (takeBn B t n).n] 31)) [g])
    have hown4 : ∀ y ∈ bs1, lo ≤ y ∧ y ≠ g := fun y hy => ⟨by have := hb1 y hy; omega, by have := hb1 y hy; omega⟩
    obtain ⟨W4, hW4⟩ : ∃ W4, W4 = (((((w1.setCell ⟨g, 0, none⟩ (.slice D1 (takeBn B t n).l.length d1)).setCell ⟨g, 1, none⟩ (.slice D2 (takeBn B t n).h.length d2)).setCell ⟨g, 2, none⟩ (.slice D3 (takeBn B t n).w.length d3)).setCell ⟨g, 3, none⟩ (.slice D4 (takeBn B t n).f.length d4)).setCell ⟨g, 4, none⟩ (.int .i64 (takeBn B t n).n)).alloc (.cells #[.slice D1 (takeBn B t n).l.length d1, .slice D2 (takeBn B t n).h.length d2, .slice D3 (takeBn B t n).w.length d3, .slice D4 (takeBn B t n).f.length d4, .int .i64 (takeBn B t n).n] 31) := ⟨_, rfl⟩
    rw [← hW4] at hO4 k4 hon4
    rw [← hW4]
    clear hW4 f0 f1 f2 f3 f4 r0 r1 r2 r3 r4 e0 e1 e2 e3 e4 hO1 k1 hl1
    have hcl := cnt_le hok (n : Int)
    obtain ⟨p0, pf0⟩ := k4.at_ (5 + n) (cdA_ref (refsOf_at _ hn61))
    have hk4 := k4.lt
    go_wp2_with (go_at_call 99; refine (atomic_add _ _ _ _ _ p0 pf0 (by omega) (by omega) (by omega) (by omega)).mono ?_; rintro e w5 ⟨rfl, rfl⟩)
    go_ret
    have k5 := k4.set_ (5 + n) (.int .i64 (cntR B n + 1))
    have hCN := HCN.out
    rw [cdA_set, show cntR B n + 1 = cntR (takeBn B t n) n by rw [hCN]; simp, refsF_set hCN] at k5
    refine ⟨ret_int ?_, ?_, hon4.trans ?_⟩
    · have h9 := HB1.out.2
      omega
    · rw [show cntR B n + 1 = cntR (takeBn B t n) n by rw [hCN]; simp]
      exact ⟨_, _, _, _, bs1, k5, hO4.far (fun y hy => (hown4 y hy).2), hown4⟩
    · exact Only.setCell _ _

set_option maxHeartbeats 1600000 in
theorem impl_drop (g lo : Nat) (B : Bn) (t x : Int) (w : World) (h : Cd w g lo B) (hok : bnOk B = true) (hlo : lo ≤ w.heap.size) :
    Calls Try.prog 102 #[.pointer (some ⟨g, 0, none⟩), .int .i64 t, .int .i64 x] w (RetCd g lo (dropRel B t x) (dropRR B t x) w) := by
  obtain ⟨a, b, c, d, bs, h1, h2, h3⟩ := h
  obtain ⟨A1, c1, A2, c2, A3, c3, A4, c4, rfl, rfl, rfl, rfl⟩ := h2.formV
  have hgl := h1.lt
  have hsz := ok_sz hok
  have HM := Lib.hid (impl_DropHold _ _ _ _ B t x w h2.rd (ok_BnR hok) (by omega))
  obtain ⟨⟨e0, e1, e2, e3, e4⟩, -⟩ := cdA_five h1
  rcases (Bool.eq_false_or_eq_true (dropOk B t x)).symm with hm | hm
  · have HB1 : Hid ((dropRel B t x) = B ∧ (dropRR B t x) = -1) := Lib.hid (by unfold dropRel dropRR; rw [hm]; exact ⟨rfl, rfl⟩)
    rw [hm] at HM
    clear hm
    go_enter Try.func102, Try.ntmps102
    go_wp2_with (go_at_call 42; refine HM.out.mono ?_; rintro e w1 ⟨u1, u2, u3, u4, bs1, rfl, hO1, hb1, hl1⟩; obtain ⟨D1, d1, D2, d2, D3, d3, D4, d4, rfl, rfl, rfl, rfl⟩ := hO1.formV)
    go_ret
    have hbB := hl1.alloc hl1.size (.cells #[.slice D1 (dropBn B t x).l.length d1, .slice D2 (dropBn B t x).h.length d2, .slice D3 (dropBn B t x).w.length d3, .slice D4 (dropBn B t x).f.length d4, .int .i64 (dropBn B t x).n] 31)
    refine ⟨ret_int HB1.out.2.symm, ?_, Only.of_below hbB _⟩
    exact Eq.mpr (congrArg (Cd _ g lo) HB1.out.1) (CdR.below ⟨_, _, _, _, bs, h1, h2, h3⟩ hbB)
  · have HM' := Lib.hid hm
    have hxr : 1 ≤ x ∧ x < 61 := (held_range hok).2 ⟨t, x⟩ (by unfold dropOk at hm; simp at hm; exact hm.2)
    obtain ⟨n, rfl⟩ : ∃ n : Nat, x = n := ⟨x.toNat, by omega⟩
    have hn61 : n < 61 := by omega
    have HCN : Hid (∀ i : Int, cntR (dropBn B t n) i = if i = (n : Int) then cntR B i + -1 else cntR B i) := Lib.hid (fun i => drop_cnt hm i)
    have HB1 : Hid (dropRel B t n = relBn (dropBn B t n) n ∧ dropRR B t n = relR (dropBn B t n) n) := Lib.hid (by unfold dropRel dropRR; rw [if_pos hm, if_pos hm]; exact ⟨rfl, rfl⟩)
    rw [hm] at HM
    clear hm
    go_enter Try.func102, Try.ntmps102
    go_upto_region 5 with (go_at_call 42; refine HM.out.mono ?_; rintro e w1 ⟨u1, u2, u3, u4, bs1, rfl, hO1, hb1, hl1⟩; obtain ⟨D1, d1, D2, d2, D3, d3, D4, d4, rfl, rfl, rfl, rfl⟩ := hO1.formV; have k1 := h1.below hl1 hgl; obtain ⟨⟨f0, f1, f2, f3, f4⟩, r0, r1, r2, r3, r4⟩ := cdA_five k1; have hgl1 := k1.lt)
    have hO4 := (hO1.only (only_set5 w1 g (.slice D1 (dropBn B t n).l.length d1) (.slice D2 (dropBn B t n).h.length d2) (.slice D3 (dropBn B t n).w.length d3) (.slice D4 (dropBn B t n).f.length d4) (.int .i64 (dropBn B t n).n)) (fun y hy hm => by have := hb1 y hy; have := List.mem_singleton.1 hm; omega)).below ((Below.refl _ _).alloc (Nat.le_refl _) (.cells #[.slice D1 (dropBn B t n).l.length d1, .slice D2 (dropBn B t n).h.length d2, .slice D3 (dropBn B t n).w.length d3, .slice D4 (dropBn B t n).f.length d4, .int .i64 (dropBn B t n).n] 31))
    have k4 := (cd_set5 (a' := .slice D1 (dropBn B t n).l.length d1) (b' := .slice D2 (dropBn B t n).h.length d2) (c' := .slice D3 (dropBn B t n).w.length d3) (d' := .slice D4 (dropBn B t n).f.length d4) (n' := (dropBn B t n).n) k1).alloc (.cells #[.slice D1 (dropBn B t n).l.length d1, .slice D2 (dropBn B t n).h.length d2, .slice D3 (dropBn B t n).w.length d3, .slice D4 (dropBn B t n).f.length d4, .int .i64 (dropBn B t n).n] 31)
    have hon4 := ((Only.of_below hl1 [g]).trans (only_set5 w1 g (.slice D1 (dropBn B t n).l.length d1) (.slice D2 (dropBn B t n).h.length d2) (.slice D3 (dropBn B t n).w.length d3) (.slice D4 (dropBn B t n).f.length d4) (.int .i64 (dropBn B t n).n))).trans (Only.of_below ((Below.refl _ _).alloc (Nat.le_refl _) (.cells #[.slice D1 (dropBn B t n).l.length d1, .slice D2 (dropBn B t n).h.length d2, .slice D3 (dropBn B t n).w.length d3, .slice D4 (dropBn B t n).f.length d4, .int .i64 (dropBn B t n).n] 31)) [g])
    have hown4 : ∀ y ∈ bs1, lo ≤ y ∧ y ≠ g := fun y hy => ⟨by have := hb1 y hy; omega, by have := hb1 y hy; omega⟩
    obtain ⟨W4, hW4⟩ : ∃ W4, W4 = (((((w1.setCell ⟨g, 0, none⟩ (.slice D1 (dropBn B t n).l.length d1)).setCell ⟨g, 1, none⟩ (.slice D2 (dropBn B t n).h.length d2)).setCell ⟨g, 2, none⟩ (.slice D3 (dropBn B t n).w.length d3)).setCell ⟨g, 3, none⟩ (.slice D4 (dropBn B t n).f.length d4)).setCell ⟨g, 4, none⟩ (.int .i64 (dropBn B t n).n)).alloc (.cells #[.slice D1 (dropBn B t n).l.length d1, .slice D2 (dropBn B t n).h.length d2, .slice D3 (dropBn B t n).w.length d3, .slice D4 (dropBn B t n).f.length d4, .int .i64 (dropBn B t n).n] 31) := ⟨_, rfl⟩
    rw [← hW4] at hO4 k4 hon4
    rw [← hW4]
    clear hW4 f0 f1 f2 f3 f4 r0 r1 r2 r3 r4 e0 e1 e2 e3 e4 hO1 k1 hl1
    have hcl := cnt_le hok (n : Int)
    have hCN := HCN.out
    have hk4 := k4.lt
    have HREL := Lib.hid (impl_release g lo (dropBn B t n) (refsF B) n hn61 W4 ⟨_, _, _, _, bs1, k4, hO4, hown4⟩ (drop_ok hok) (by have := hon4.size; omega) (by
      have := hCN n
      rw [if_pos rfl] at this
      rw [this, show cntR B n + -1 + 1 = cntR B n by omega]
      exact refsOf_at _ hn61) (refsF_set hCN))
    go_wp2_with (go_at_call 116; refine HREL.out.mono ?_; rintro e w5 ⟨rfl, hcd, hon5⟩)
    go_ret
    refine ⟨ret_int HB1.out.2.symm, ?_, hon4.trans hon5⟩
    rw [HB1.out.1]
    exact hcd

set_option maxHeartbeats 1600000 in
theorem impl_cut (g lo : Nat) (B : Bn) (x : Int) (w : World) (h : Cd w g lo B) (hok : bnOk B = true) (hlo : lo ≤ w.heap.size) :
    Calls Try.prog 103 #[.pointer (some ⟨g, 0, none⟩), .int .i64 x] w (RetCd g lo (cutRel B x) (cutRR B x) w) := by
  obtain ⟨a, b, c, d, bs, h1, h2, h3⟩ := h
  obtain ⟨A1, c1, A2, c2, A3, c3, A4, c4, rfl, rfl, rfl, rfl⟩ := h2.formV
  have hgl := h1.lt
  have hsz := ok_sz hok
  have HM := Lib.hid (impl_CutObj _ _ _ _ B x w h2.rd (ok_BnR hok) (by omega))
  obtain ⟨⟨e0, e1, e2, e3, e4⟩, -⟩ := cdA_five h1
  rcases (Bool.eq_false_or_eq_true (cutOk B x)).symm with hm | hm
  · have HB1 : Hid ((cutRel B x) = B ∧ (cutRR B x) = -1) := Lib.hid (by unfold cutRel cutRR; rw [hm]; exact ⟨rfl, rfl⟩)
    rw [hm] at HM
    clear hm
    go_enter Try.func103, Try.ntmps103
    go_wp2_with (go_at_call 44; refine HM.out.mono ?_; rintro e w1 ⟨u1, u2, u3, u4, bs1, rfl, hO1, hb1, hl1⟩; obtain ⟨D1, d1, D2, d2, D3, d3, D4, d4, rfl, rfl, rfl, rfl⟩ := hO1.formV)
    go_ret
    have hbB := hl1.alloc hl1.size (.cells #[.slice D1 (cutBn B x).l.length d1, .slice D2 (cutBn B x).h.length d2, .slice D3 (cutBn B x).w.length d3, .slice D4 (cutBn B x).f.length d4, .int .i64 (cutBn B x).n] 31)
    refine ⟨ret_int HB1.out.2.symm, ?_, Only.of_below hbB _⟩
    exact Eq.mpr (congrArg (Cd _ g lo) HB1.out.1) (CdR.below ⟨_, _, _, _, bs, h1, h2, h3⟩ hbB)
  · have HM' := Lib.hid hm
    have hxr : 1 ≤ x ∧ x < 61 := (held_range hok).1 x (by unfold cutOk at hm; simp only [Bool.and_eq_true] at hm; have := any_mem.1 hm.2; unfold allBn; simp [this])
    obtain ⟨n, rfl⟩ : ∃ n : Nat, x = n := ⟨x.toNat, by omega⟩
    have hn61 : n < 61 := by omega
    have HCN : Hid (∀ i : Int, cntR (cutBn B n) i = if i = (n : Int) then cntR B i + -1 else cntR B i) := Lib.hid (fun i => cut_cnt hm i)
    have HB1 : Hid (cutRel B n = relBn (cutBn B n) n ∧ cutRR B n = relR (cutBn B n) n) := Lib.hid (by unfold cutRel cutRR; rw [if_pos hm, if_pos hm]; exact ⟨rfl, rfl⟩)
    rw [hm] at HM
    clear hm
    go_enter Try.func103, Try.ntmps103
    go_upto_region 5 with (go_at_call 44; refine HM.out.mono ?_; rintro e w1 ⟨u1, u2, u3, u4, bs1, rfl, hO1, hb1, hl1⟩; obtain ⟨D1, d1, D2, d2, D3, d3, D4, d4, rfl, rfl, rfl, rfl⟩ := hO1.formV; have k1 := h1.below hl1 hgl; obtain ⟨⟨f0, f1, f2, f3, f4⟩, r0, r1, r2, r3, r4⟩ := cdA_five k1; have hgl1 := k1.lt)
    have hO4 := (hO1.only (only_set5 w1 g (.slice D1 (cutBn B n).l.length d1) (.slice D2 (cutBn B n).h.length d2) (.slice D3 (cutBn B n).w.length d3) (.slice D4 (cutBn B n).f.length d4) (.int .i64 (cutBn B n).n)) (fun y hy hm => by have := hb1 y hy; have := List.mem_singleton.1 hm; omega)).below ((Below.refl _ _).alloc (Nat.le_refl _) (.cells #[.slice D1 (cutBn B n).l.length d1, .slice D2 (cutBn B n).h.length d2, .slice D3 (cutBn B n).w.length d3, .slice D4 (cutBn B n).f.length d4, .int .i64 (cutBn B n).n] 31))
    have k4 := (cd_set5 (a' := .slice D1 (cutBn B n).l.length d1) (b' := .slice D2 (cutBn B n).h.length d2) (c' := .slice D3 (cutBn B n).w.length d3) (d' := .slice D4 (cutBn B n).f.length d4) (n' := (cutBn B n).n) k1).alloc (.cells #[.slice D1 (cutBn B n).l.length d1, .slice D2 (cutBn B n).h.length d2, .slice D3 (cutBn B n).w.length d3, .slice D4 (cutBn B n).f.length d4, .int .i64 (cutBn B n).n] 31)
    have hon4 := ((Only.of_below hl1 [g]).trans (only_set5 w1 g (.slice D1 (cutBn B n).l.length d1) (.slice D2 (cutBn B n).h.length d2) (.slice D3 (cutBn B n).w.length d3) (.slice D4 (cutBn B n).f.length d4) (.int .i64 (cutBn B n).n))).trans (Only.of_below ((Below.refl _ _).alloc (Nat.le_refl _) (.cells #[.slice D1 (cutBn B n).l.length d1, .slice D2 (cutBn B n).h.length d2, .slice D3 (cutBn B n).w.length d3, .slice D4 (cutBn B n).f.length d4, .int .i64 (cutBn B n).n] 31)) [g])
    have hown4 : ∀ y ∈ bs1, lo ≤ y ∧ y ≠ g := fun y hy => ⟨by have := hb1 y hy; omega, by have := hb1 y hy; omega⟩
    obtain ⟨W4, hW4⟩ : ∃ W4, W4 = (((((w1.setCell ⟨g, 0, none⟩ (.slice D1 (cutBn B n).l.length d1)).setCell ⟨g, 1, none⟩ (.slice D2 (cutBn B n).h.length d2)).setCell ⟨g, 2, none⟩ (.slice D3 (cutBn B n).w.length d3)).setCell ⟨g, 3, none⟩ (.slice D4 (cutBn B n).f.length d4)).setCell ⟨g, 4, none⟩ (.int .i64 (cutBn B n).n)).alloc (.cells #[.slice D1 (cutBn B n).l.length d1, .slice D2 (cutBn B n).h.length d2, .slice D3 (cutBn B n).w.length d3, .slice D4 (cutBn B n).f.length d4, .int .i64 (cutBn B n).n] 31) := ⟨_, rfl⟩
    rw [← hW4] at hO4 k4 hon4
    rw [← hW4]
    clear hW4 f0 f1 f2 f3 f4 r0 r1 r2 r3 r4 e0 e1 e2 e3 e4 hO1 k1 hl1
    have hcl := cnt_le hok (n : Int)
    have hCN := HCN.out
    have hk4 := k4.lt
    have HREL := Lib.hid (impl_release g lo (cutBn B n) (refsF B) n hn61 W4 ⟨_, _, _, _, bs1, k4, hO4, hown4⟩ (cut_ok hok) (by have := hon4.size; omega) (by
      have := hCN n
      rw [if_pos rfl] at this
      rw [this, show cntR B n + -1 + 1 = cntR B n by omega]
      exact refsOf_at _ hn61) (refsF_set hCN))
    go_wp2_with (go_at_call 116; refine HREL.out.mono ?_; rintro e w5 ⟨rfl, hcd, hon5⟩)
    go_ret
    refine ⟨ret_int HB1.out.2.symm, ?_, hon4.trans hon5⟩
    rw [HB1.out.1]
    exact hcd

end Go.Proofs.Ytiamkgkhamnaeaa
