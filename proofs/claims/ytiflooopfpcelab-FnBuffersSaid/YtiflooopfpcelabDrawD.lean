/- What DrawDrainOne and DrawDrainAll may give: a buffer of at most four slots and a memory of at most 17 cells, both readable. Condition: the bytes can be read, at most 1048576. -/
import Derived.Test.YtiflooopfpcelabDrawPoke
import Derived.Test.YtiflooopfpcelabDrawM
import Derived.Test.YtiflooopfpcelabDrawS
import Derived.IntWalk
namespace Go.Proofs.Ytiflooopfpcelab
set_option maxRecDepth 20000
set_option linter.unusedSimpArgs false
set_option linter.unusedVariables false
open Go.ChangeShapes Go.WideShapes Go.ChangeAt Go.RowKit
set_option linter.unusedVariables false
def DrawnDA (w : World) (e : Ending) (w' : World) : Prop :=
  ∃ v1 L bs1 v2 ms bs2, e = .returned (.tuple #[v1, .agg #[v2]]) ∧ Own w' v1 2 L.length (flc2 L) bs1 ∧ L.length ≤ 4 ∧ Own w' v2 1 ms.length (ints ms) bs2 ∧ ms.length ≤ 17 ∧ (∀ b ∈ bs1, w.heap.size ≤ b) ∧ (∀ b ∈ bs2, w.heap.size ≤ b) ∧ Below w.heap.size w w'
set_option maxHeartbeats 2000000 in
theorem DrawDrainOne (A : Option Addr) (n c : Nat) (w : World) (h : Byt w A n) (hnc : n ≤ c) (hc : c ≤ 9223372036854775807) (hn : n ≤ 1048576) :
    Calls Try.prog 86 #[.slice A n c] w (DrawnDA w) := by
  go_enter Try.func86, Try.ntmps86
  go_wp2_with fail
  refine (l01New A n c w.heap.size _ (h.alloc _) h.lt hnc hc hn).mono ?_
  rintro e w1 ⟨g, rfl, hc1, hg1, hb1⟩
  have k1 := (Bk.new w #[.slice none 0 0] 26).below hb1 (by simp)
  have hB1 := ((Below.refl w.heap.size w).alloc (Nat.le_refl _) (.cells #[.slice none 0 0] 26)).trans (hb1.mono (by simp))
  rw [World.size_alloc] at hg1
  have hg := hc1.lt
  go_wp2_with fail
  refine (l01DrawMem g _ _ hc1).mono ?_
  rintro e w2 ⟨v2, ys, bs, rfl, hmv, ho2, hbs, hc2, hn2⟩
  obtain ⟨A2, c2, rfl, hcc2, hcm2⟩ := ho2.slice
  have hl17 : ys.length ≤ 17 := hmv.1
  have W2 : Waits g w.heap.size w2.heap.size w A2 c2 ys bs (w2.alloc (.cells #[.slice A2 ys.length c2] 26)) := by
    have := hc2.lt
    exact ⟨hc2.below ((Below.refl _ _).alloc (Nat.le_refl _) _), (hB1.trans (hn2.below hB1.size (by simp; omega))).alloc (by have := hn2.size; have := hB1.size; omega) _, ⟨_, (k1.only hn2 (by simp; omega)).alloc _⟩, Bk.new _ _ _,
      ho2.below ((Below.refl _ _).alloc (Nat.le_refl _) _), by omega, by omega, fun hm => by have := hbs _ hm; omega, by omega, by omega, by omega, by have := hn2.size; omega, fun hm => by have := hbs _ hm; omega⟩
  have k2 := k1.only hn2 (by simp; omega)
  have hl2 := k2.lt
  obtain ⟨hcr, hfr⟩ := k2.at_ 0 (x := .slice none 0 0) rfl
  have WH := Lib.hid W2
  have HMV := Lib.hid hmv
  have HBS := Lib.hid hbs
  have hz1 : w.heap.size ≤ w1.heap.size := hB1.size
  clear W2 hmv hbs k1 k2 ho2
  go_wp2_with fail
  have hsum : IntKind.i64.wrap ((ys.length : Int) + 1) = (ys.length : Int) + 1 := IntWalk.i64_in _ (by omega)
  go_region_held3 (fun W => W.cell? ⟨w2.heap.size, 0, none⟩ = some (.slice A2 ys.length c2) ∧ Hid (Waits g w.heap.size w2.heap.size w A2 c2 ys bs W))
    (first
      | (exact waits_held (WH.out.below (Below.refl _ _).drew))
      | (exact waits_held (Hid.out (by assumption)))
      | (exact waits_alloc (by assumption) _)
      | (exact waits_store (by assumption) _))
    (first
      | (go_at_call 109; have hS := (‹_ ∧ Hid (Waits g w.heap.size w2.heap.size w A2 c2 ys bs _)›).2; refine (l03DrawBuf g _ _ hS.out.1 (by omega)).mono ?_; rintro e w9 ⟨v9, L, rfl, hL, hO9, hc9, ho9⟩; have hS9 := Lib.hid (hS.out.go hc9 ho9); have hlo9 := hS.out.2.1.size; obtain ⟨u9, hu9⟩ := hS9.out.2.2.1; obtain ⟨hcr9, hfr9⟩ := hu9.at_ 0 (x := u9) rfl; clear hS))
  all_goals
    have hS13 := (‹_ ∧ Hid (Waits g w.heap.size w2.heap.size w A2 c2 ys bs _)›).2
    have HO := Lib.hid hS13.out.2.2.2.2.1
    have HBL := Lib.hid hS13.out.2.1
    have HS9 : Hid (∃ bs9, Own (w9.setCell ⟨w.heap.size, 0, none⟩ (.slice A2 ys.length c2)) v9 2 L.length (flc2 L) bs9 ∧ ∀ b ∈ bs9, w.heap.size ≤ b) := Lib.hid (by
      have hO9' : w9.ownsRow (w2.heap.size + 1) 109 2 v9 L.length (flc2 L) := by simpa using hO9
      obtain ⟨bs9, h1, h2⟩ := Own.of_owns hO9'
      exact ⟨bs9, h1.far (fun k hk => by have := h2 k hk; omega), fun b hb => by have := h2 b hb; omega⟩)
    go_wp2_with fail
    obtain ⟨bs9, h91, h92⟩ := HS9.out
    exact bodyPost_ret (v := .tuple #[v9, .agg #[.slice A2 ys.length c2]]) (by simp [results, Try.results86, go_sem, hcr9]) rfl
      ⟨v9, L, bs9, _, ys, bs, rfl, h91, hL, HO.out, hl17, h92, fun b hb => by have := HBS.out b hb; omega, HBL.out⟩
set_option maxHeartbeats 2000000 in
theorem DrawDrainAll (A : Option Addr) (n c : Nat) (w : World) (h : Byt w A n) (hnc : n ≤ c) (hc : c ≤ 9223372036854775807) (hn : n ≤ 1048576) :
    Calls Try.prog 36 #[.slice A n c] w (DrawnDA w) := by
  go_enter Try.func36, Try.ntmps36
  go_wp2_with fail
  refine (DrawDrainOne A n c _ (h.alloc _) hnc hc hn).mono ?_
  rintro e w1 ⟨v1, L, bs1, v2, ms, bs2, rfl, ho1, hL, ho2, hm, hl1, hl2, hb1⟩
  obtain ⟨A2, c2, rfl, -, -⟩ := ho2.slice
  have k1 := (Bk.new w #[.slice none 0 0] 26).below hb1 (by simp)
  obtain ⟨hc1, hf1⟩ := k1.at_ 0 (x := .slice none 0 0) rfl
  have hB := ((Below.refl w.heap.size w).alloc (Nat.le_refl _) (.cells #[.slice none 0 0] 26)).trans (hb1.mono (by simp))
  simp only [World.size_alloc] at hl1 hl2
  have HE := Lib.hid (And.intro (ho1.far (b := w.heap.size) (i := 0) (u := .slice A2 ms.length c2) (fun k hk => by have := hl1 k hk; omega)) (And.intro (ho2.far (b := w.heap.size) (i := 0) (u := .slice A2 ms.length c2) (fun k hk => by have := hl2 k hk; omega)) (hB.setCell (p := ⟨w.heap.size, 0, none⟩) (Nat.le_refl _) (.slice A2 ms.length c2))))
  clear ho1 ho2
  go_wp2_with fail
  exact bodyPost_ret (v := .tuple #[v1, .agg #[.slice A2 ms.length c2]]) (by simp [results, Try.results36, go_sem, hc1]) rfl
    ⟨v1, L, bs1, _, ms, bs2, rfl, HE.out.1, hL, HE.out.2.1, hm, fun b hb => by have := hl1 b hb; omega, fun b hb => by have := hl2 b hb; omega, HE.out.2.2⟩
end Go.Proofs.Ytiflooopfpcelab
