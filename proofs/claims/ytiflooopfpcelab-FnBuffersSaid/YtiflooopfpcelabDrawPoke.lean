/- What DrawPoke may give: a memory, an address and a value in their bounds. Condition: the bytes can be read, at most 1048576. -/
import Derived.Test.YtiflooopfpcelabDraw
namespace Go.Proofs.Ytiflooopfpcelab
set_option maxRecDepth 20000
set_option linter.unusedSimpArgs false
set_option linter.unusedVariables false
open Go.ChangeShapes Go.WideShapes Go.ChangeAt Go.RowKit
set_option linter.unusedVariables false
/-- what is known while a drawn memory waits in a variable: the cursor, the result's block, the variable's block, the row -/
def Waits (g r gm : Nat) (w : World) (A1 : Option Addr) (c1 : Nat) (ys : List Int) (bs : List Nat) (W : World) : Prop :=
  Cur w.heap.size W g ∧ Below w.heap.size w W ∧ (∃ u, Bk W r #[u] 26) ∧ Bk W gm #[.slice A1 ys.length c1] 26 ∧ Own W (.slice A1 ys.length c1) 1 ys.length (ints ys) bs ∧ g ≠ r ∧ g ≠ gm ∧ g ∉ bs ∧ w.heap.size ≤ g ∧ w.heap.size ≤ r ∧ r < g ∧ r ≠ gm ∧ r ∉ bs
theorem Waits.go {g r gm c1 : Nat} {w W W' : World} {A1 : Option Addr} {ys : List Int} {bs : List Nat} (h : Waits g r gm w A1 c1 ys bs W) (hc : Cur w.heap.size W' g) (ho : Only [g] W W') : Waits g r gm w A1 c1 ys bs W' := by
  obtain ⟨h1, h2, ⟨u, h3⟩, h4, h5, h6, h7, h8, h9, h10⟩ := h
  exact ⟨hc, h2.trans (ho.below h2.size (by simpa using h9)), ⟨u, h3.only ho (by simpa using h6.symm)⟩, h4.only ho (by simpa using h7.symm), h5.only ho (fun b hb hm => by simp at hm; subst hm; exact h8 hb), h6, h7, h8, h9, h10⟩
theorem Waits.below {g r gm c1 : Nat} {w W W' : World} {A1 : Option Addr} {ys : List Int} {bs : List Nat} (h : Waits g r gm w A1 c1 ys bs W) (hb : Below W.heap.size W W') : Waits g r gm w A1 c1 ys bs W' :=
  h.go (h.1.below hb) (Only.of_below hb _)
theorem waits_held {g r gm c1 : Nat} {w W : World} {A1 : Option Addr} {ys : List Int} {bs : List Nat} (h : Waits g r gm w A1 c1 ys bs W) : W.cell? ⟨gm, 0, none⟩ = some (.slice A1 ys.length c1) ∧ Hid (Waits g r gm w A1 c1 ys bs W) :=
  ⟨(h.2.2.2.1.at_ 0 (x := .slice A1 ys.length c1) rfl).1, Lib.hid h⟩
theorem waits_alloc {g r gm c1 : Nat} {w W : World} {A1 : Option Addr} {ys : List Int} {bs : List Nat} (h : W.cell? ⟨gm, 0, none⟩ = some (.slice A1 ys.length c1) ∧ Hid (Waits g r gm w A1 c1 ys bs W)) (o : Obj) :
    (W.alloc o).cell? ⟨gm, 0, none⟩ = some (.slice A1 ys.length c1) ∧ Hid (Waits g r gm w A1 c1 ys bs (W.alloc o)) := waits_held (h.2.out.below ((Below.refl _ _).alloc (Nat.le_refl _) o))
theorem waits_store {g r gm c1 : Nat} {w W : World} {A1 : Option Addr} {ys : List Int} {bs : List Nat} (h : W.cell? ⟨gm, 0, none⟩ = some (.slice A1 ys.length c1) ∧ Hid (Waits g r gm w A1 c1 ys bs W)) (x : Value) :
    (W.setCell ⟨r, 0, none⟩ x).cell? ⟨gm, 0, none⟩ = some (.slice A1 ys.length c1) ∧ Hid (Waits g r gm w A1 c1 ys bs (W.setCell ⟨r, 0, none⟩ x)) := by
  obtain ⟨h1, h2, ⟨u, h3⟩, h4, h5, h6, h7, h8, h9, h10, h11, h12, h13⟩ := h.2.out
  have hs : Only [r] W (W.setCell ⟨r, 0, none⟩ x) := Only.setCell W x
  have hcur : Cur w.heap.size (W.setCell ⟨r, 0, none⟩ x) g := by
    obtain ⟨A, n, c, i, y, hk, q1, q2, q3, q4, q5, q6⟩ := h1
    refine ⟨A, n, c, i, y, hk.only hs (by simpa using h6), q1, q2, q3, q4, q5.keep (B := 0) (fun ad ha hn => hs.block _ (by obtain ⟨ad', e1, e2, _⟩ := q5 hn; rw [ha] at e1; injection e1 with e1; subst e1; exact e2) ?_) hs.size, q6⟩
    have := q6 ad ha hn
    simp
    omega
  refine waits_held ⟨hcur, h2.trans (hs.below h2.size (by simpa using h10)), ⟨x, h3.set_ 0 x⟩, h4.only hs (by simpa using h12.symm), h5.only hs (fun b hb hm => by simp at hm; subst hm; exact h13 hb), h6, h7, h8, h9, h10, h11, h12, h13⟩
def DrawnPoke (w : World) (e : Ending) (w' : World) : Prop :=
  ∃ v' ys bs, ∃ a x : Int, e = .returned (.tuple #[.agg #[v'], .int .i64 a, .int .i64 x]) ∧ MemVal ys ∧ Own w' v' 1 ys.length (ints ys) bs ∧ (∀ b ∈ bs, w.heap.size ≤ b) ∧ Below w.heap.size w w' ∧ (-1 ≤ a ∧ a ≤ 18) ∧ (-1000001 ≤ x ∧ x ≤ 1000001)
set_option maxHeartbeats 2000000 in
theorem DrawPoke (A : Option Addr) (n c : Nat) (w : World) (h : Byt w A n) (hnc : n ≤ c) (hc : c ≤ 9223372036854775807) (hn : n ≤ 1048576) :
    Calls Try.prog 16 #[.slice A n c] w (DrawnPoke w) := by
  have h1 : Byt (w.alloc (.cells #[.slice none 0 0] 26)) A n := h.keep (B := 0) (fun ad ha hn => by obtain ⟨ad', e1, e2, _⟩ := h hn; rw [ha] at e1; injection e1 with e1; subst e1; exact Below.heap_alloc w _ _ e2) (by simp)
  go_enter Try.func16, Try.ntmps16
  go_wp2_with fail
  refine (l01New A n c w.heap.size _ h1 (fun ad ha hn => by obtain ⟨ad', e1, e2, _⟩ := h hn; rw [ha] at e1; injection e1 with e1; subst e1; exact e2) hnc hc hn).mono ?_
  rintro e w1 ⟨g, rfl, hc1, hg1, hb1⟩
  have k1 := (Bk.new w #[.slice none 0 0] 26).below hb1 (by simp)
  have hB1 := ((Below.refl w.heap.size w).alloc (Nat.le_refl _) (.cells #[.slice none 0 0] 26)).trans (hb1.mono (by simp))
  rw [World.size_alloc] at hg1
  have hg := hc1.lt
  go_wp2_with fail
  refine (l01DrawMem g _ _ hc1).mono ?_
  rintro e w2 ⟨v2, ys, bs, rfl, hmv, ho2, hbs, hc2, hn2⟩
  obtain ⟨A2, c2, rfl, hcc2, hcm2⟩ := ho2.slice
  have hl17 : ys.length ≤ 17 := hmv.1
  have W2 : Waits g w.heap.size w2.heap.size w A2 c2 ys bs (w2.alloc (.cells #[.slice A2 ys.length c2] 26)) := by
    have := hc2.lt
    exact ⟨hc2.below ((Below.refl _ _).alloc (Nat.le_refl _) _), (hB1.trans (hn2.below hB1.size (by simp; omega))).alloc (by have := hn2.size; have := hB1.size; omega) _, ⟨_, (k1.only hn2 (by simp; omega)).alloc _⟩, Bk.new _ _ _,
      ho2.below ((Below.refl _ _).alloc (Nat.le_refl _) _), by omega, by omega, fun hm => by have := hbs _ hm; omega, by omega, by omega, by omega, by have := hn2.size; omega, fun hm => by have := hbs _ hm; omega⟩
  have k2 := k1.only hn2 (by simp; omega)
  have hl2 := k2.lt
  obtain ⟨hcr, hfr⟩ := k2.at_ 0 (x := .slice none 0 0) rfl
  have WH := Lib.hid W2
  have HMV := Lib.hid hmv
  have HBS := Lib.hid hbs
  have hz1 : w.heap.size ≤ w1.heap.size := hB1.size
  clear W2 hmv hbs k1 k2 ho2
  go_wp2_with fail
  have hsum : IntKind.i64.wrap ((ys.length : Int) + 2) = (ys.length : Int) + 2 := IntWalk.i64_in _ (by omega)
  have tok1 : True := trivial
  go_region_held3 (fun W => W.cell? ⟨w2.heap.size, 0, none⟩ = some (.slice A2 ys.length c2) ∧ Hid (Waits g w.heap.size w2.heap.size w A2 c2 ys bs W))
    (first
      | (exact waits_held (WH.out.below (Below.refl _ _).drew))
      | (exact waits_held (Hid.out (by assumption)))
      | (exact waits_alloc (by assumption) _)
      | (exact waits_store (by assumption) _))
    (first
      | (go_at_call 56; have hS := (‹_ ∧ Hid (Waits g w.heap.size w2.heap.size w A2 c2 ys bs _)›).2; refine (l01Below g _ _ hS.out.1 (WalkArith.wf_i64 (by omega))).mono ?_; rintro e w9 ⟨j, ⟨j0, j1⟩, rfl, hc9, ho9⟩; have hj : j ≤ 19 := (by omega); have hdif : IntKind.i64.wrap (j - 1) = j - 1 := IntWalk.i64_in _ (by omega); have hS9 := Lib.hid (hS.out.go hc9 ho9); clear hS j1)
      | (go_at_call 58; have _t := tok1; have hS := (‹_ ∧ Hid (Waits g w.heap.size w2.heap.size w A2 c2 ys bs _)›).2; refine (l01DrawValue g _ hS.out.1).mono ?_; rintro e w10 ⟨y1, hy1, rfl, hc10, ho10⟩; have hS10 := Lib.hid (hS.out.go hc10 ho10); clear hS _t tok1)
      | (go_at_call 58; have hS := (‹_ ∧ Hid (Waits g w.heap.size w2.heap.size w A2 c2 ys bs _)›).2; refine (l01DrawValue g _ hS.out.1).mono ?_; rintro e w11 ⟨y2, hy2, rfl, hc11, ho11⟩; have hS11 := Lib.hid (hS.out.go hc11 ho11); clear hS)
      | (go_at_call 57; have hS := (‹_ ∧ Hid (Waits g w.heap.size w2.heap.size w A2 c2 ys bs _)›).2; refine (l01PickInt g _ [y1, y2, 1000001] _ hS.out.1 (rd_lit w11 [y1, y2, 1000001] 3 (by simp)) (by simp) (lit_ne hc11.lt)).mono ?_; rintro e w12 ⟨z, hz, rfl, hc12, ho12⟩; have hzz : -1000001 ≤ z ∧ z ≤ 1000001 := (by simp at hz; omega); have hS12 := Lib.hid (hS.out.go hc12 ho12); obtain ⟨u12, hu12⟩ := hS12.out.2.2.1; obtain ⟨hcr12, hfr12⟩ := hu12.at_ 0 (x := u12) rfl; clear hS hz hu12))
  all_goals
    have hS13 := (‹_ ∧ Hid (Waits g w.heap.size w2.heap.size w A2 c2 ys bs _)›).2
    have HO := Lib.hid hS13.out.2.2.2.2.1
    have HBL := Lib.hid hS13.out.2.1
    go_wp2_with fail
    exact bodyPost_ret (v := .tuple #[.agg #[.slice A2 ys.length c2], .int .i64 (j - 1), .int .i64 z]) (by simp [results, Try.results16, go_sem, hcr12]) rfl
      ⟨_, ys, bs, j - 1, z, rfl, HMV.out, HO.out, fun b hb => by have := HBS.out b hb; omega, HBL.out, by omega, hzz⟩
end Go.Proofs.Ytiflooopfpcelab
