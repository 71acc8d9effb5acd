/- Contracts of chapter 3's model functions (package spec): DrainOne. Condition: the slices can be read. -/
import Derived.Test.YtiflooopfpcelabB2
import Derived.Deep.RegionHeld3
namespace Go.Proofs.Ytiflooopfpcelab
set_option maxRecDepth 20000
set_option linter.unusedSimpArgs false
set_option linter.unusedVariables false
open Go.ChangeShapes Go.WideShapes Go.ChangeAt Go.RowKit
set_option linter.unusedVariables false
def drOk : List P2 → List Int → Bool
  | [], _ => false
  | x :: xs, ms => bufOk (x :: xs) && pokeOk ms x.a x.b
def drB (xs : List P2) (ms : List Int) : List P2 := if drOk xs ms then xs.tail else xs
def drM : List P2 → List Int → List Int
  | [], ms => ms
  | x :: xs, ms => if bufOk (x :: xs) then pokeF ms x.a x.b else ms
def RetDrain (L : List P2) (M : List Int) (ok : Bool) (w : World) (e : Ending) (w' : World) : Prop :=
  ∃ v1 bs1 v2 bs2, e = .returned (.tuple #[v1, .agg #[v2], .bool ok]) ∧ Own w' v1 2 L.length (flc2 L) bs1 ∧ Own w' v2 1 M.length (ints M) bs2 ∧ (∀ b ∈ bs1, w.heap.size ≤ b) ∧ (∀ b ∈ bs2, w.heap.size ≤ b) ∧ Below w.heap.size w w'
theorem pokeF_len (ms : List Int) (a x : Int) : (pokeF ms a x).length = ms.length := by unfold pokeF; split <;> simp
theorem wf_small {x : Int} (h : -1000001 ≤ x ∧ x ≤ 1000001) : (Lit.int .i64 x).wf = true := WalkArith.wf_i64 (by omega)
theorem slot_wf {xs : List P2} {x : P2} {k : Nat} (h : bufOk xs = true) (hx : xs[k]? = some x) : 0 ≤ x.a ∧ x.a ≤ 15 ∧ (Lit.int .i64 x.a).wf = true := by
  simp only [bufOk, Bool.and_eq_true, List.all_eq_true] at h
  have := h.2 x (List.mem_of_getElem? hx)
  simp only [slotOk, Bool.and_eq_true] at this
  have := inB_true this.1
  exact ⟨this.1, this.2, wf_small (by omega)⟩
/-- the same, the two results' blocks apart: the slots' below mid, the memory's from mid on -/
def RetDrainM (L : List P2) (M : List Int) (ok : Bool) (w : World) (e : Ending) (w' : World) : Prop :=
  ∃ v1 bs1 v2 bs2 mid, e = .returned (.tuple #[v1, .agg #[v2], .bool ok]) ∧ Own w' v1 2 L.length (flc2 L) bs1 ∧ Own w' v2 1 M.length (ints M) bs2 ∧ (∀ b ∈ bs1, w.heap.size ≤ b) ∧ (∀ b ∈ bs1, b < mid) ∧ (∀ b ∈ bs2, mid ≤ b) ∧ w.heap.size ≤ mid ∧ Below w.heap.size w w'
theorem RetDrainM.plain {L : List P2} {M : List Int} {ok : Bool} {w w' : World} {e : Ending} (h : RetDrainM L M ok w e w') : RetDrain L M ok w e w' := by
  obtain ⟨v1, bs1, v2, bs2, mid, he, h1, h2, h3, h4, h5, h6, h7⟩ := h
  exact ⟨v1, bs1, v2, bs2, he, h1, h2, h3, fun b hb => Nat.le_trans h6 (h5 b hb), h7⟩
theorem drain_back {w w6 w7 : World} {B : Nat} {t : TypeId} {xs L : List P2} {ms M : List Int} {ok : Bool} {v6 : Value} {A7 : Option Addr} {c7 : Nat} {bs7 : List Nat} {x : Value} (hB6 : Below w.heap.size w w6) (hO6 : w6.ownsRow B t 2 v6 xs.length (flc2 xs)) (hBB : w.heap.size + 2 ≤ B)
    (h7 : Own w7 (.slice A7 ms.length c7) 1 ms.length (ints ms) bs7) (hbs7 : ∀ b ∈ bs7, w6.heap.size ≤ b) (hb7 : Below w6.heap.size w6 w7) (hlt : w.heap.size + 2 ≤ w6.heap.size) (HF : L = xs ∧ M = ms ∧ ok = false) :
    RetDrainM L M ok w (.returned (.tuple #[v6, .agg #[.slice A7 ms.length c7], .bool false])) (w7.setCell ⟨w.heap.size + 1, 0, none⟩ x) := by
  obtain ⟨rfl, rfl, rfl⟩ := HF
  obtain ⟨bs6, h6, hl6⟩ := Own.of_owns hO6
  have hi6 := h6.lt
  refine ⟨v6, bs6, _, bs7, w6.heap.size, rfl, (h6.below hb7).far fun k hk => by have := hl6 k hk; omega, h7.far fun k hk => by have := hbs7 k hk; omega, fun b hb => by have := hl6 b hb; omega, hi6, hbs7, hB6.size, (hB6.trans (hb7.mono hB6.size)).setCell (Nat.le_succ _) _⟩
theorem rd_tail {w : World} {b o c : Nat} {xs ys : List P2} {At : Option Addr} (h : Rd w (.slice (some ⟨b, o, none⟩) xs.length c) 2 xs.length (flc2 xs)) (hl : 0 < xs.length) (hys : xs.tail = ys) (hAt : (if c = 1 then some (⟨b, o, none⟩ : Addr) else some ⟨b, o + 2, none⟩) = At) :
    Rd w (.slice At ys.length (c - 1)) 2 ys.length (flc2 ys) := by
  obtain ⟨A', c', he, -, hc, hm, hr⟩ := h
  injection he with e1 e2 e3
  subst e1
  subst e3
  obtain ⟨b', o', e, hb, hcell⟩ := hr hl
  injection e with e
  injection e with e1 e2
  subst e1
  subst e2
  cases xs with
  | nil => simp at hl
  | cons x xs =>
    simp only [List.tail_cons] at hys
    subst hys
    simp only [List.length_cons] at hc
    refine ⟨At, c - 1, rfl, flc2_len _, by omega, by omega, fun hp => ⟨b, o + 2, ?_, hb, fun j u hu => ?_⟩⟩
    · rw [← hAt, if_neg (by omega)]
    · have := hcell (2 + j) u (by rw [show flc2 (x :: xs) = p2C x ++ flc2 xs from flc2_append [x] xs, List.getElem?_append_right (by simp [p2C])]; simpa [p2C] using hu)
      rw [Nat.add_assoc]
      exact this
theorem drain_on {w wc w6 : World} {B : Nat} {t : TypeId} {ys L : List P2} {ms M : List Int} {ok : Bool} {v6 : Value} {A9 : Option Addr} {c9 : Nat} {bs9 : List Nat} {x : Value} (hBc : Below w.heap.size w wc) (hB6 : Below wc.heap.size wc w6) (hO6 : w6.ownsRow B t 2 v6 ys.length (flc2 ys)) (hB : w.heap.size + 2 ≤ B)
    (h9 : Own wc (.slice A9 ms.length c9) 1 ms.length (ints ms) bs9) (hbs9 : ∀ b ∈ bs9, w.heap.size + 2 ≤ b) (HF : L = ys ∧ M = ms ∧ ok = true) :
    RetDrain L M ok w (.returned (.tuple #[v6, .agg #[.slice A9 ms.length c9], .bool true])) (w6.setCell ⟨w.heap.size + 1, 0, none⟩ x) := by
  obtain ⟨rfl, rfl, rfl⟩ := HF
  obtain ⟨bs6, h6, hl6⟩ := Own.of_owns hO6
  refine ⟨v6, bs6, _, bs9, rfl, h6.far fun k hk => by have := hl6 k hk; omega, (h9.below hB6).far fun k hk => by have := hbs9 k hk; omega, fun b hb => by have := hl6 b hb; omega, fun b hb => by have := hbs9 b hb; omega, (hBc.trans (hB6.mono hBc.size)).setCell (Nat.le_succ _) _⟩
set_option maxHeartbeats 400000 in
theorem l03Mem (v : Value) (xs : List Int) (w : World) (h : Rd w v 1 xs.length (ints xs)) (hsz : xs.length ≤ 16777216) :
    Calls Try.prog 87 #[.agg #[v]] w (RetMem xs w) := by
  obtain ⟨A, c, rfl, hnc, hc, -⟩ := id h
  have hB := ((Below.refl w.heap.size w).alloc (Nat.le_refl _) (.cells #[.slice A xs.length c] 26)).alloc (by simp) (.cells #[.slice none 0 0] 26)
  go_enter Try.func87, Try.ntmps87
  go_wp2_with fail
  refine (l01Copy _ xs _ (h.below hB) hsz).mono ?_
  rintro e w1 ⟨v1, bs1, rfl, ho1, hbs1, hb1⟩
  obtain ⟨A1, c1, rfl, hcc1, hcm1⟩ := ho1.slice
  have k2 := (Bk.new (w.alloc (.cells #[.slice A xs.length c] 26)) #[.slice none 0 0] 26).below hb1 (by simp)
  have hB1 := hB.trans (hb1.mono (by simp; omega))
  rw [World.size_alloc] at k2
  simp only [World.size_alloc] at hbs1
  obtain ⟨hc2, hf2⟩ := k2.at_ 0 rfl
  go_wp2_with fail
  exact bodyPost_ret (v := .agg #[.slice A1 xs.length c1]) (by simp [results, Try.results87, go_sem, hc2]) rfl ⟨_, bs1, rfl, ho1.far fun k hk => by have := hbs1 k hk; omega, fun b hb => by have := hbs1 b hb; omega, hB1.setCell (Nat.le_succ _) _⟩
set_option maxHeartbeats 3200000 in
theorem spec_DrainOne (v u : Value) (xs : List P2) (ms : List Int) (w : World) (h : Rd w v 2 xs.length (flc2 xs)) (hm : Rd w u 1 ms.length (ints ms)) (hsz : xs.length ≤ 16777215) (hsm : ms.length ≤ 16777215) :
    Calls Try.prog 50 #[v, .agg #[u]] w (RetDrain (drB xs ms) (drM xs ms) (drOk xs ms) w) := by
  obtain ⟨A, c, rfl, -, hnc, hc, hr⟩ := id h
  obtain ⟨Am, cm, rfl, -, hncm, hcm, -⟩ := id hm
  unfold maxLen at hc hcm
  have hBa := ((Below.refl w.heap.size w).alloc (Nat.le_refl _) (.cells #[.slice Am ms.length cm] 26)).alloc (by simp) (.cells #[.slice none 0 0] 26)
  have HBa := Lib.hid hBa
  have HR : Hid (∀ W, Below w.heap.size w W → Rd W (.slice A xs.length c) 2 xs.length (flc2 xs)) := Lib.hid fun W hW => h.below hW
  have HM : Hid (∀ W, Below w.heap.size w W → Rd W (.slice Am ms.length cm) 1 ms.length (ints ms)) := Lib.hid fun W hW => hm.below hW
  have k1 := (Bk.new w #[.slice Am ms.length cm] 26).alloc (.cells #[.slice none 0 0] 26)
  have k2 := Bk.new (w.alloc (.cells #[.slice Am ms.length cm] 26)) #[.slice none 0 0] 26
  rw [World.size_alloc] at k2
  have K1 := Lib.hid k1
  have K2 := Lib.hid k2
  obtain ⟨hc1, -⟩ := k1.at_ 0 (x := .slice Am ms.length cm) rfl
  obtain ⟨hc2, hf2⟩ := k2.at_ 0 (x := .slice none 0 0) rfl
  clear k1 k2 hBa h hm
  have hcase : (bufOk xs = false) ∨ (bufOk xs = true ∧ ¬ 0 < xs.length) ∨ (bufOk xs = true ∧ 0 < xs.length) := by
    cases bufOk xs
    · exact .inl rfl
    · by_cases h : 0 < xs.length
      · exact .inr (.inr ⟨rfl, h⟩)
      · exact .inr (.inl ⟨rfl, h⟩)
  rcases hcase with hb | ⟨hb, hl⟩ | ⟨hb, hl⟩
  · have HF : Hid (drB xs ms = xs ∧ drM xs ms = ms ∧ drOk xs ms = false) := Lib.hid (by
      cases xs with
      | nil => simp [drB, drM, drOk]
      | cons x xs => simp [drB, drM, drOk, hb])
    clear hr
    go_enter Try.func50, Try.ntmps50
    go_wp2_with fail
    refine (spec_BufOk _ xs _ (HR.out _ HBa.out)).mono ?_
    rintro e w3 ⟨rfl, rfl⟩
    rw [hb]
    clear hb
    go_wp2_with fail
    go_region_law (first
      | (refine step_call rfl 96 Try.func96 (by kernel_rfl) (by kernel_rfl) _ _ rfl #[(.slice A xs.length c)] (by simp [Act.eval, Act.put]) (l03Copy _ xs _ (HR.out _ HBa.out.drew) (by omega)) ?_; rintro e w6 ⟨v6, rfl, hO6, hB6⟩; refine ⟨_, rfl, ?_⟩; have k6 := Bk.below (by exact K1.out) hB6 (by exact K1.out.lt); have q6 := Bk.below (by exact K2.out) hB6 (by exact K2.out.lt); obtain ⟨hd0, -⟩ := k6.at_ 0 (x := .slice Am ms.length cm) rfl; have hB6' : Below w.heap.size w w6 := HBa.out.drew.trans (hB6.mono (by simp <;> omega)); have K6 := Lib.hid q6; have O6 := Lib.hid hO6; have B6 := Lib.hid hB6'; clear k6 q6 hO6 hB6')
      | (refine step_call rfl 87 Try.func87 (by kernel_rfl) (by kernel_rfl) _ _ rfl #[.agg #[.slice Am ms.length cm]] (by simp [Act.eval, Act.put]) (l03Mem _ ms _ (HM.out _ B6.out) (by omega)) ?_; rintro e w7 ⟨v7, bs7, rfl, ho7, hbs7, hb7⟩; obtain ⟨A7, c7, rfl, -, -⟩ := ho7.slice; refine ⟨_, rfl, ?_⟩; have q7 := K6.out.below hb7 K6.out.lt; obtain ⟨hd2, hg2⟩ := q7.at_ 0 (x := .slice none 0 0) rfl))
    all_goals
      have HE := Lib.hid (drain_back (x := .slice A7 ms.length c7) (L := drB xs ms) (M := drM xs ms) (ok := drOk xs ms) B6.out O6.out (by simp <;> omega) ho7 hbs7 hb7 (by have := hB6.size; simp at this; omega) HF.out).plain
      go_wp2_with fail
      exact bodyPost_ret (v := .tuple #[v6, .agg #[.slice A7 ms.length c7], .bool false]) (by simp [results, Try.results50, go_sem, hd2]) rfl HE.out
  · have HF : Hid (drB xs ms = xs ∧ drM xs ms = ms ∧ drOk xs ms = false) := Lib.hid (by
      cases xs with
      | nil => simp [drB, drM, drOk]
      | cons x xs => simp at hl)
    have hl0 : ((xs.length : Int) == 0) = true := by rw [show xs.length = 0 by omega]; rfl
    clear hr hl
    go_enter Try.func50, Try.ntmps50
    go_wp2_with fail
    refine (spec_BufOk _ xs _ (HR.out _ HBa.out)).mono ?_
    rintro e w3 ⟨rfl, rfl⟩
    rw [hb]
    clear hb
    go_wp2_with fail
    go_region_law (first
      | (refine step_call rfl 96 Try.func96 (by kernel_rfl) (by kernel_rfl) _ _ rfl #[(.slice A xs.length c)] (by simp [Act.eval, Act.put]) (l03Copy _ xs _ (HR.out _ HBa.out.drew) (by omega)) ?_; rintro e w6 ⟨v6, rfl, hO6, hB6⟩; refine ⟨_, rfl, ?_⟩; have k6 := Bk.below (by exact K1.out) hB6 (by exact K1.out.lt); have q6 := Bk.below (by exact K2.out) hB6 (by exact K2.out.lt); obtain ⟨hd0, -⟩ := k6.at_ 0 (x := .slice Am ms.length cm) rfl; have hB6' : Below w.heap.size w w6 := HBa.out.drew.trans (hB6.mono (by simp <;> omega)); have K6 := Lib.hid q6; have O6 := Lib.hid hO6; have B6 := Lib.hid hB6'; clear k6 q6 hO6 hB6')
      | (refine step_call rfl 87 Try.func87 (by kernel_rfl) (by kernel_rfl) _ _ rfl #[.agg #[.slice Am ms.length cm]] (by simp [Act.eval, Act.put]) (l03Mem _ ms _ (HM.out _ B6.out) (by omega)) ?_; rintro e w7 ⟨v7, bs7, rfl, ho7, hbs7, hb7⟩; obtain ⟨A7, c7, rfl, -, -⟩ := ho7.slice; refine ⟨_, rfl, ?_⟩; have q7 := K6.out.below hb7 K6.out.lt; obtain ⟨hd2, hg2⟩ := q7.at_ 0 (x := .slice none 0 0) rfl))
    all_goals
      have HE := Lib.hid (drain_back (x := .slice A7 ms.length c7) (L := drB xs ms) (M := drM xs ms) (ok := drOk xs ms) B6.out O6.out (by simp <;> omega) ho7 hbs7 hb7 (by have := hB6.size; simp at this; omega) HF.out).plain
      go_wp2_with fail
      exact bodyPost_ret (v := .tuple #[v6, .agg #[.slice A7 ms.length c7], .bool false]) (by simp [results, Try.results50, go_sem, hd2]) rfl HE.out
  · have hl0 : ((xs.length : Int) == 0) = false := by rw [beq_eq_false_iff_ne]; omega
    have hl1 : (0 : Int) < xs.length := by omega
    obtain ⟨b, o, rfl, hbl, hcell⟩ := hr hl
    obtain ⟨x, hxk, hx0, hx1⟩ := p2_at (k := 0) (fun j u hu => (HBa.out.cell (p := ⟨b, o + j, none⟩) hbl).trans (hcell j u hu)) hl
    have hwf := slot_wf hb hxk.out
    obtain ⟨xa, xb⟩ := x
    simp only [Nat.zero_mul, Nat.add_zero] at hx0 hx1 hwf
    have HF : Hid (drOk xs ms = pokeOk ms xa xb ∧ drB xs ms = (if pokeOk ms xa xb then xs.tail else xs) ∧ drM xs ms = pokeF ms xa xb) := Lib.hid (by
      have h0 := hxk.out
      cases xs with
      | nil => simp at hl
      | cons y ys =>
        simp at h0
        subst h0
        simp [drB, drM, drOk, hb])
    obtain ⟨W0, hW0⟩ : ∃ W0, (w.alloc (.cells #[.slice Am ms.length cm] 26)).alloc (.cells #[.slice none 0 0] 26) = W0 := ⟨_, rfl⟩
    have hsz0 : W0.heap.size = w.heap.size + 2 := by rw [← hW0]; simp
    have hne : b ≠ w.heap.size := by omega
    have hne1 : b ≠ w.heap.size + 1 := by omega
    have HS : Hid (∀ W : World, Below W0.heap.size W0 W → Below W0.heap.size W0 W ∧ W.cell? ⟨w.heap.size, 0, none⟩ = some (.slice Am ms.length cm) ∧ W.cell? ⟨b, o, none⟩ = some (.int .i64 xa) ∧ W.cell? ⟨b, o + 1, none⟩ = some (.int .i64 xb)) :=
      Lib.hid fun W hW => ⟨hW, (hW.cell (p := ⟨w.heap.size, 0, none⟩) (by show w.heap.size < _; omega)).trans (hW0 ▸ hc1), (hW.cell (p := ⟨b, o, none⟩) (by show b < _; omega)).trans (hW0 ▸ hx0), (hW.cell (p := ⟨b, o + 1, none⟩) (by show b < _; omega)).trans (hW0 ▸ hx1)⟩
    have HZ0 := Lib.hid hsz0
    clear hsz0
    rw [hW0] at HBa K1 K2 hc1 hc2 hf2 hx0 hx1
    clear hcell hr
    go_enter Try.func50, Try.ntmps50
    go_wp2_with fail
    refine (spec_BufOk _ xs _ (HR.out _ HBa.out)).mono ?_
    rintro e w3 ⟨rfl, rfl⟩
    rw [hb]
    clear hb
    clear hW0
    go_wp2_with fail
    have KN : Hid (Bk ((W0.alloc (.cells #[.slice none 0 0] 26)).drew) W0.heap.size #[.slice none 0 0] 26) := Lib.hid (Bk.new W0 #[.slice none 0 0] 26)
    have HN : Hid (Below W0.heap.size W0 (W0.alloc (.cells #[.slice none 0 0] 26)).drew) := Lib.hid ((Below.refl _ W0).alloc (Nat.le_refl _) _).drew
    go_cut [7, 8] (fun p ok wc => ∃ (g : Nat) (A9 : Option Addr) (c9 : Nat) (bs9 : List Nat), p = .pointer (some ⟨g, 0, none⟩) ∧ ok = .bool (pokeOk ms xa xb) ∧ Bk wc g #[.slice A9 (pokeF ms xa xb).length c9] 26 ∧
      Own wc (.slice A9 (pokeF ms xa xb).length c9) 1 (pokeF ms xa xb).length (ints (pokeF ms xa xb)) bs9 ∧ (∀ b ∈ bs9, W0.heap.size ≤ b) ∧ g ∉ bs9 ∧ W0.heap.size ≤ g ∧ Below W0.heap.size W0 wc)
    case first =>
      go_region_held3 (fun W => Below W0.heap.size W0 W ∧ W.cell? ⟨w.heap.size, 0, none⟩ = some (.slice Am ms.length cm) ∧ W.cell? ⟨b, o, none⟩ = some (.int .i64 xa) ∧ W.cell? ⟨b, o + 1, none⟩ = some (.int .i64 xb)) (first | (exact HS.out _ (Below.refl _ _).drew) | (exact HS.out _ HN.out) | (exact HS.out _ (hS2.alloc hS2.size _)) | (exact HS.out _ (hS2.setCell (Nat.le_refl _) _)) | (exact HS.out _ (by assumption)))
        (first
          | (go_at_call 17; have hS := ‹Below W0.heap.size W0 _ ∧ _›.1; refine (spec_Poke _ ms xa xb _ (HM.out _ (HBa.out.trans (hS.mono HBa.out.size))) (by omega) hwf.2.2).mono ?_; rintro e w9 ⟨v9, bs9, rfl, ho9, hbs9, hb9⟩; obtain ⟨A9, c9, rfl, -, -⟩ := ho9.slice; have hS2 := hS.trans (hb9.mono hS.size); clear hS; try (have q9 := KN.out.below hb9 KN.out.lt; obtain ⟨hq9, hg9⟩ := q9.at_ 0 (x := .slice none 0 0) rfl)))
      · go_wp2_with fail
        go_meet
        exact ⟨_, A9, c9, bs9, rfl, rfl, Bk.new _ _ _, ho9.below ((Below.refl _ _).alloc (Nat.le_refl _) _), fun b hb => hbs9 b hb, fun hm => by have := ho9.lt _ hm; omega, hS2.size, hS2.alloc hS2.size _⟩
      · go_wp2_with fail
        go_meet
        exact ⟨_, A9, c9, bs9, rfl, rfl, by simpa using q9.set_ 0 (.slice A9 (pokeF ms xa xb).length c9), ho9.far (fun k hk => by have := hbs9 k hk; simp at this; omega), fun b hb => by have := hbs9 b hb; simp at this; omega, fun hm => by have := hbs9 _ hm; simp at this; omega, Nat.le_refl _, hS2.setCell (Nat.le_refl _) _⟩
    case rest =>
      obtain ⟨g, A9, c9, bs9, rfl, rfl, kg, ho9, hbs9, hg9, hgl, hBc⟩ := hcut
      have hsz0 := HZ0.out
      have hBB := HBa.out.trans (hBc.mono HBa.out.size)
      have kc1 := K1.out.below hBc K1.out.lt
      have kc2 := K2.out.below hBc K2.out.lt
      obtain ⟨hc1, -⟩ := kc1.at_ 0 (x := .slice Am ms.length cm) rfl
      obtain ⟨hc2, hf2⟩ := kc2.at_ 0 (x := .slice none 0 0) rfl
      obtain ⟨hcg, hfg⟩ := kg.at_ 0 (x := .slice A9 (pokeF ms xa xb).length c9) rfl
      have hlc : w.heap.size + 2 ≤ wc.heap.size := by have := hBc.size; omega
      have HBc := Lib.hid hBB
      have KC1 := Lib.hid kc1
      have KC2 := Lib.hid kc2
      have HCS : Hid (∀ W : World, Below wc.heap.size wc W → W.cell? ⟨b, o, none⟩ = some (.int .i64 xa)) := Lib.hid fun W hW => (hW.cell (p := ⟨b, o, none⟩) (by show b < _; omega)).trans (HS.out _ hBc).2.2.1
      clear hsz0 hBB kc1 kc2 hBc
      cases hp : pokeOk ms xa xb
      · have HF2 : Hid (drB xs ms = xs ∧ drM xs ms = ms ∧ drOk xs ms = false) := Lib.hid ⟨by rw [HF.out.2.1, hp]; rfl, by rw [HF.out.2.2]; simp [pokeF, hp], by rw [HF.out.1, hp]⟩
        have HF := HF2
        clear HF2 hp
        go_wp2_with fail
        go_region_law (first
          | (refine step_call rfl 96 Try.func96 (by kernel_rfl) (by kernel_rfl) _ _ rfl #[(.slice (some ⟨b, o, none⟩) xs.length c)] (by simp [Act.eval, Act.put]) (l03Copy _ xs _ (HR.out _ HBc.out.drew) (by omega)) ?_; rintro e w6 ⟨v6, rfl, hO6, hB6⟩; refine ⟨_, rfl, ?_⟩; have k6 := Bk.below (by exact KC1.out) hB6 (by exact KC1.out.lt); have q6 := Bk.below (by exact KC2.out) hB6 (by exact KC2.out.lt); obtain ⟨hd0, -⟩ := k6.at_ 0 (x := .slice Am ms.length cm) rfl; have hB6' : Below w.heap.size w w6 := HBc.out.drew.trans (hB6.mono (by simp <;> omega)); have K6 := Lib.hid q6; have O6 := Lib.hid hO6; have B6 := Lib.hid hB6'; clear k6 q6 hO6 hB6')
          | (refine step_call rfl 87 Try.func87 (by kernel_rfl) (by kernel_rfl) _ _ rfl #[.agg #[.slice Am ms.length cm]] (by simp [Act.eval, Act.put]) (l03Mem _ ms _ (HM.out _ B6.out) (by omega)) ?_; rintro e w7 ⟨v7, bs7, rfl, ho7, hbs7, hb7⟩; obtain ⟨A7, c7, rfl, -, -⟩ := ho7.slice; refine ⟨_, rfl, ?_⟩; have q7 := K6.out.below hb7 K6.out.lt; obtain ⟨hd2, hg2⟩ := q7.at_ 0 (x := .slice none 0 0) rfl))
        all_goals
          have HE := Lib.hid (drain_back (x := .slice A7 ms.length c7) (L := drB xs ms) (M := drM xs ms) (ok := drOk xs ms) B6.out O6.out (by simp <;> omega) ho7 hbs7 hb7 (by have := hB6.size; simp at this; omega) HF.out).plain
          go_wp2_with fail
          exact bodyPost_ret (v := .tuple #[v6, .agg #[.slice A7 ms.length c7], .bool false]) (by simp [results, Try.results50, go_sem, hd2]) rfl HE.out
      · obtain ⟨ys, hys⟩ : ∃ ys, xs.tail = ys := ⟨_, rfl⟩
        obtain ⟨At, hAt⟩ : ∃ At, (if c = 1 then some (⟨b, o, none⟩ : Addr) else some ⟨b, o + 2, none⟩) = At := ⟨_, rfl⟩
        have HRt : Hid (∀ W, Below w.heap.size w W → Rd W (.slice At ys.length (c - 1)) 2 ys.length (flc2 ys)) := Lib.hid fun W hW => rd_tail (HR.out W hW) hl hys hAt
        have hn1 : xs.length - 1 = ys.length := by rw [← hys, List.length_tail]
        have hl2 : (1 : Int) ≤ xs.length := by omega
        have hyl : ys.length ≤ 16777215 := by omega
        have HF2 : Hid (drB xs ms = ys ∧ drM xs ms = pokeF ms xa xb ∧ drOk xs ms = true) := Lib.hid ⟨by rw [HF.out.2.1, hp]; exact hys, HF.out.2.2, by rw [HF.out.1, hp]⟩
        have hbs9' : ∀ b ∈ bs9, w.heap.size + 2 ≤ b := fun b hb => by have := hbs9 b hb; have := HZ0.out; omega
        have KG := Lib.hid kg
        have H9 := Lib.hid ho9
        clear hp hys ho9 kg
        go_wp2_with fail
        go_region_law (first
          | (refine step_call rfl 96 Try.func96 (by kernel_rfl) (by kernel_rfl) _ _ rfl #[.slice At ys.length (c - 1)] (by simp [Act.eval, Act.put]) (l03Copy _ ys _ (HRt.out _ HBc.out.drew) (by omega)) ?_; rintro e w6 ⟨v6, rfl, hO6, hB6⟩; refine ⟨_, rfl, ?_⟩; have k6 := Bk.below (by exact KG.out) hB6 (by exact KG.out.lt); have q6 := Bk.below (by exact KC2.out) hB6 (by exact KC2.out.lt); obtain ⟨hd0, -⟩ := k6.at_ 0 (x := .slice A9 (pokeF ms xa xb).length c9) rfl; obtain ⟨hd2, hg2⟩ := q6.at_ 0 (x := .slice none 0 0) rfl))
        all_goals
          have hB6' : Below wc.heap.size wc w6 := (Below.refl _ wc).drew.trans (hB6.mono (by simp))
          have HE := Lib.hid (drain_on (x := .slice A9 (pokeF ms xa xb).length c9) (L := drB xs ms) (M := drM xs ms) (ok := drOk xs ms) HBc.out hB6' hO6 (by simp <;> omega) H9.out hbs9' HF2.out)
          go_wp2_with fail
          exact bodyPost_ret (v := .tuple #[v6, .agg #[.slice A9 (pokeF ms xa xb).length c9], .bool true]) (by simp [results, Try.results50, go_sem, hd2]) rfl HE.out
end Go.Proofs.Ytiflooopfpcelab
