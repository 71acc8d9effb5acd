/- Contracts of chapter 8's functions (package impl), seventh part: a play's own methods free and do. Conditions: the play's box, its heap's rows and its row of references are the call's own; a heap of at most 24 objects; the library's variable errors.errorType holds the handle of the type error. -/
import Derived.Test.YtpenneklpolhgaaDoorH14
import Derived.Test.YtpenneklpolhgaaDoorH13
namespace Go.Proofs.YtpenneklpolhgaaDoor
set_option maxRecDepth 20000
set_option linter.unusedSimpArgs false
set_option linter.unusedVariables false
open Go.ChangeShapes Go.WideShapes Go.ChangeAt Go.RowKit
set_option linter.unusedVariables false
theorem RetDo.from {w W : World} {pB base : Nat} {v8 : Value} {bs : List Nat} {h : Hp} {rs : List P2} {c : Int} {e : Ending} {w' : World} (r : RetDo W pB base v8 bs h rs c e w') (hb : Below w.heap.size w W) : RetDo w pB base v8 bs h rs c e w' := by
  obtain ⟨g, l, v, b, h1, h2, h3, h4, h5⟩ := r
  have := hb.size
  exact ⟨g, l, v, b, h1, h2, fun x hx => (h3 x hx).imp id fun h => by omega, fun q hq => (h4 q hq).imp id fun h => by omega, (Only.of_below hb _).trans h5⟩
set_option maxHeartbeats 3200000 in
theorem play_free (pB base : Nat) (gv lv v8 : Value) (h : Hp) (rs : List P2) (bs : List Nat) (r : P2) (w : World) (p : PlI w pB base gv lv v8 h rs bs) (hsz : h.g.length ≤ 24 ∧ h.l.length ≤ 24) (hbw : base ≤ w.heap.size) (hE : ErrTy w) :
    Calls Tryd.prog 70 #[.pointer (some ⟨pB, 0, none⟩), .agg #[.int .i64 r.a, .int .i64 r.b]] w (RetDo w pB base v8 bs (freeH h r) rs (freeC h r)) := by
  obtain ⟨A, c, B, d, rfl, rfl, -⟩ := p.hp.rd.slices
  obtain ⟨ra, rb⟩ := r
  obtain ⟨h1, hh1⟩ : ∃ h1, freeH h ⟨ra, rb⟩ = h1 := ⟨_, rfl⟩
  obtain ⟨code, hcode⟩ : ∃ code, freeC h ⟨ra, rb⟩ = code := ⟨_, rfl⟩
  have hb0 := (Below.refl w.heap.size w).alloc (Nat.le_refl _) (.cells #[.int .i64 ra, .int .i64 rb] 33)
  have q0 := Bk.new w #[.int .i64 ra, .int .i64 rb] 33
  obtain ⟨W1, hW1⟩ : ∃ W1, W1 = w.alloc (.cells #[.int .i64 ra, .int .i64 rb] 33) := ⟨_, rfl⟩
  have hz1 : W1.heap.size = w.heap.size + 1 := by rw [hW1]; simp
  rw [← hW1] at hb0 q0
  have HW1 := Lib.hid hW1
  have HZ1 := Lib.hid hz1
  have p1 := p.below hb0
  have hE1 := hE.below hb0 (Nat.le_refl _)
  obtain ⟨x0, -⟩ := p1.box.at_ 0 (x := .slice A h.g.length c) rfl
  obtain ⟨x1, -⟩ := p1.box.at_ 1 (x := .slice B h.l.length d) rfl
  obtain ⟨x2, -⟩ := q0.at_ 0 (x := .int .i64 ra) rfl
  obtain ⟨x3, -⟩ := q0.at_ 1 (x := .int .i64 rb) rfl
  have lp := p1.box.lt
  have lq := q0.lt
  have hF := fun (W : World) (hb : Below W1.heap.size W1 W) => impl_FreeObj _ _ h ⟨ra, rb⟩ W (p1.hp.rd.below hb) ⟨by omega, by omega⟩ (hE1.below hb (Nat.le_refl _))
  rw [hh1, hcode] at hF
  have HF := Lib.hid hF
  have KN : Hid (Bk ((W1.alloc (.cells #[.slice none 0 0, .slice none 0 0] 29)).drew) W1.heap.size #[.slice none 0 0, .slice none 0 0] 29) := Lib.hid (Bk.new W1 #[.slice none 0 0, .slice none 0 0] 29)
  have HN : Hid (Below W1.heap.size W1 (W1.alloc (.cells #[.slice none 0 0, .slice none 0 0] 29)).drew) := Lib.hid ((Below.refl _ W1).alloc (Nat.le_refl _) _).drew
  have HND : Hid (Below W1.heap.size W1 W1.drew) := Lib.hid (Below.refl _ W1).drew
  have HP1 := Lib.hid p1
  have HQ0 := Lib.hid q0
  have HB0 := Lib.hid hb0
  rw [hh1, hcode]
  clear hW1 hz1 hF hcode hh1 p1 q0 hb0 hE1
  go_enter Tryd.func70, Tryd.ntmps70
  go_wp2_with fail
  rw [← HW1.out]
  go_cut [5, 6] (fun p5 p6 wz => ∃ (g : Nat) (A1 : Option Addr) (c1 : Nat) (B1 : Option Addr) (d1 : Nat) (bs1 : List Nat), p5 = .pointer (some ⟨g, 0, none⟩) ∧ p6 = .int .i64 code ∧ Bk wz g #[.slice A1 h1.g.length c1, .slice B1 h1.l.length d1] 29 ∧ OwnHp wz (.slice A1 h1.g.length c1) (.slice B1 h1.l.length d1) h1 bs1 ∧ (∀ b ∈ bs1, W1.heap.size ≤ b) ∧ W1.heap.size ≤ g ∧ Below W1.heap.size W1 wz)
  case first =>
    go_region_law (first
      | (refine step_call rfl 10 Tryd.func10 (by kernel_rfl) (by kernel_rfl) _ _ rfl #[.agg #[.slice A h.g.length c, .slice B h.l.length d], .agg #[.int .i64 ra, .int .i64 rb]] (by simp [Act.eval, Act.put]) (HF.out W1.drew HND.out) ?_; rintro e w2 ⟨gv1, lv1, bs1, rfl, ho1, hbs1, hb1⟩; refine ⟨_, rfl, ?_⟩; obtain ⟨A1, c1, B1, d1, rfl, rfl⟩ := ho1.slices; have t2 : Below W1.heap.size W1 w2 := HND.out.trans hb1)
      | (refine step_call rfl 10 Tryd.func10 (by kernel_rfl) (by kernel_rfl) _ _ rfl #[.agg #[.slice A h.g.length c, .slice B h.l.length d], .agg #[.int .i64 ra, .int .i64 rb]] (by simp [Act.eval, Act.put]) (HF.out (W1.alloc (.cells #[.slice none 0 0, .slice none 0 0] 29)).drew HN.out) ?_; rintro e w2 ⟨gv1, lv1, bs1, rfl, ho1, hbs1, hb1⟩; refine ⟨_, rfl, ?_⟩; obtain ⟨A1, c1, B1, d1, rfl, rfl⟩ := ho1.slices; have t2 : Below W1.heap.size W1 w2 := HN.out.trans (hb1.mono HN.out.size); have qz := KN.out.below hb1 KN.out.lt; obtain ⟨z0, f0⟩ := qz.at_ 0 (x := .slice none 0 0) rfl; obtain ⟨z1, f1⟩ := qz.at_ 1 (x := .slice none 0 0) rfl))
    all_goals go_wp2_with fail
    all_goals go_meet
    all_goals first
      | exact ⟨w2.heap.size, A1, c1, B1, d1, bs1, rfl, rfl, Bk.new _ _ _, ho1.below ((Below.refl _ _).alloc (Nat.le_refl _) _), fun b hb => hbs1 b hb, t2.size, t2.alloc t2.size _⟩
      | exact ⟨W1.heap.size, A1, c1, B1, d1, bs1, rfl, rfl, by simpa using (qz.set_ 0 (.slice A1 h1.g.length c1)).set_ 1 (.slice B1 h1.l.length d1), (ho1.far (fun b hb e => by have := hbs1 b hb; rw [e] at this; have := Nat.lt_of_lt_of_le KN.out.lt this; omega)).far (fun b hb e => by have := hbs1 b hb; rw [e] at this; have := Nat.lt_of_lt_of_le KN.out.lt this; omega), fun b hb => Nat.le_trans HN.out.size (hbs1 b hb), Nat.le_refl _, (t2.setCell (Nat.le_refl _) _).setCell (Nat.le_refl _) _⟩
  case rest =>
    obtain ⟨g, A1, c1, B1, d1, bs1, rfl, rfl, hk5, ho5, hbs5, hg5, hbz⟩ := hcut
    rename World => wz
    have hz1 := HZ1.out
    have pz := HP1.out.below hbz
    obtain ⟨y0, f0⟩ := pz.box.at_ 0 (x := .slice A h.g.length c) rfl
    obtain ⟨y1, f1⟩ := pz.box.at_ 1 (x := .slice B h.l.length d) rfl
    obtain ⟨y2, -⟩ := hk5.at_ 0 (x := .slice A1 h1.g.length c1) rfl
    obtain ⟨y3, -⟩ := hk5.at_ 1 (x := .slice B1 h1.l.length d1) rfl
    have lpb := p.lt
    have ng : g ≠ pB := by omega
    have hnb : ∀ q, v8.ownBlock = some q → base ≤ q ∧ q < w.heap.size := fun q hq => p.refs.lt q hq
    have nv : v8.ownBlock ≠ some pB := fun e => by have := hnb pB e; omega
    have kF := (pz.box.set_ 0 (.slice A1 h1.g.length c1)).set_ 1 (.slice B1 h1.l.length d1)
    have oF := (ho5.far (b := pB) (k := 0) (u := .slice A1 h1.g.length c1) (fun b hb => by have := hbs5 b hb; omega)).far (b := pB) (k := 1) (u := .slice B1 h1.l.length d1) (fun b hb => by have := hbs5 b hb; omega)
    have rF := ownsRow_setCell_other (ownsRow_setCell_other pz.refs (a := ⟨pB, 0, none⟩) nv (.slice A1 h1.g.length c1)) (a := ⟨pB, 1, none⟩) nv (.slice B1 h1.l.length d1)
    have HE := Lib.hid (show PlI ((wz.setCell ⟨pB, 0, none⟩ (.slice A1 h1.g.length c1)).setCell ⟨pB, 1, none⟩ (.slice B1 h1.l.length d1)) pB base (.slice A1 h1.g.length c1) (.slice B1 h1.l.length d1) v8 h1 rs bs1 from ⟨kF, oF, rF, fun q hq hm => by have := hnb q hq; have := hbs5 q hm; omega, fun hm => by have := hbs5 _ hm; omega, lpb⟩)
    have HO := Lib.hid (((Only.of_below (HB0.out.trans (hbz.mono HB0.out.size)) (pB :: v8.ownBlock.toList)).trans ((Only.setCell (b := pB) (i := 0) wz (.slice A1 h1.g.length c1)).mono (by simp))).trans ((Only.setCell (b := pB) (i := 1) (wz.setCell ⟨pB, 0, none⟩ (.slice A1 h1.g.length c1)) (.slice B1 h1.l.length d1)).mono (by simp)))
    clear kF oF rF hz1 hk5 ho5 x0 x1 x2 x3
    go_wp2_with fail
    go_ret
    exact ⟨_, _, _, bs1, rfl, HE.out, fun b hb => .inr (by have := hbs5 b hb; have := HZ1.out; omega), fun q hq => .inl hq, HO.out⟩
end Go.Proofs.YtpenneklpolhgaaDoor
