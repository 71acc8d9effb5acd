/- Contracts of the bend of a program and of the drawn program (package spec). Conditions: the cursor's bytes can be read. -/
import Derived.Test.YtgbgjlmkmlhefaaDrawR
namespace Go.Proofs.Ytgbgjlmkmlhefaa
set_option maxRecDepth 20000
set_option linter.unusedSimpArgs false
set_option linter.unusedVariables false
open Go.ChangeShapes Go.WideShapes Go.ChangeAt Go.RowKit
set_option linter.unusedVariables false
theorem owns_formT {w : World} {base : Nat} {e : TypeId} {size : Nat} {A : Option Addr} {n m c : Nat} {xs : List Value} (h : w.ownsRow base e size (.slice A m c) n xs) (hn : 0 < n) : ∃ g, A = some ⟨g, 0, none⟩ ∧ base ≤ g := by
  obtain ⟨_, ⟨_, h0⟩ | ⟨g, cap, cur, h1, h2, _⟩⟩ := h
  · omega
  · injection h1 with h1
    exact ⟨g, h1, h2⟩
theorem Byt.allocT {w : World} {A : Option Addr} {n : Nat} (h : Byt w A n) (o : Obj) : Byt (w.alloc o) A n :=
  h.keep (B := 0) (fun ad ha hn => by obtain ⟨ad', e1, e2, _⟩ := h hn; rw [ha] at e1; injection e1 with e1; subst e1; exact Below.heap_alloc w _ _ e2) (by simp)
theorem rd_nil (w : World) (size : Nat) : Rd w (.slice none 0 0) size 0 [] := ⟨none, 0, rfl, by simp, Nat.le_refl _, by unfold maxLen; omega, fun h => by omega⟩
theorem owns_setT {w : World} {base size n b j : Nat} {e t : TypeId} {v : Value} {xs : List Value} {cs : Array Value} (h : w.ownsRow base e size v n xs) (k : Bk w b cs t) (he : e ≠ t) (u : Value) : (w.setCell ⟨b, j, none⟩ u).ownsRow base e size v n xs := by
  obtain ⟨h1, h2⟩ := h
  refine ⟨h1, ?_⟩
  rcases h2 with h2 | ⟨g, cap, cur, e1, e2, e3, e4⟩
  · exact .inl h2
  · refine .inr ⟨g, cap, cur, e1, e2, (Below.heap_setCell w ⟨b, j, none⟩ u g ?_).trans e3, e4⟩
    intro hh
    simp only at hh
    subst hh
    unfold Bk at k
    rw [e3] at k
    simp only [Option.some.injEq, Obj.cells.injEq] at k
    exact he k.2.1
theorem owns_neT {w : World} {base size n b : Nat} {e t : TypeId} {v : Value} {xs : List Value} {cs : Array Value} (h : w.ownsRow base e size v n xs) (k : Bk w b cs t) (he : e ≠ t) : ∀ q, v.ownBlock = some q → b ≠ q := by
  intro q hq hh
  subst hh
  rcases h.2 with ⟨rfl, _⟩ | ⟨g, cap, cur, rfl, e2, e3, e4⟩
  · cases hq
  · simp only [Value.ownBlock, Option.some.injEq] at hq
    subst hq
    unfold Bk at k
    rw [e3] at k
    simp only [Option.some.injEq, Obj.cells.injEq] at k
    exact he k.2.1
theorem ProgOwn.setT {w : World} {lo b j : Nat} {v : Value} {xss : List (List Ins)} {cs : Array Value} (h : ProgOwn w lo v xss) (k : Bk w b cs 33) (u : Value) : ProgOwn (w.setCell ⟨b, j, none⟩ u) lo v xss := by
  obtain ⟨vs, h1, h2⟩ := h
  exact ⟨vs, owns_setT h1 k (by decide) u, h2.map fun v n cs h => owns_setT h k (by decide) u⟩
/-- what the bend leaves: some readable program -/
def SmallL (xss : List (List Ins)) : Prop := xss.length ≤ 5 ∧ ∀ xs ∈ xss, xs.length ≤ 16
theorem SmallL.of {xss : List (List Ins)} (h : SmallSS xss) (h3 : xss.length ≤ 3) : SmallL xss := ⟨by omega, fun xs hx => (h xs hx).1⟩
theorem SmallL.two {xss : List (List Ins)} (h : SmallSS xss) (h3 : xss.length ≤ 3) : SmallL (xss ++ [[]] ++ [[]]) := by
  refine ⟨by simp; omega, fun xs hx => ?_⟩
  rw [List.mem_append, List.mem_append, List.mem_singleton] at hx
  rcases hx with (hx | rfl) | rfl
  · exact (h xs hx).1
  · simp
  · simp
theorem SmallL.putHead {x0 : List Ins} {rest xss : List (List Ins)} {j : Nat} {y : Ins} (e : xss = x0 :: rest) (h : SmallSS xss) (h3 : xss.length ≤ 3) : SmallL (x0.set j y :: rest) := by
  subst e
  refine ⟨by simp at h3 ⊢; omega, fun xs hx => ?_⟩
  rcases List.mem_cons.1 hx with rfl | hx
  · rw [List.length_set]
    exact (h x0 (List.mem_cons_self ..)).1
  · exact (h xs (List.mem_cons_of_mem _ hx)).1
def BentP (B lo1 g : Nat) (w : World) (e : Ending) (w' : World) : Prop := ∃ (v : Value) (c : Int) (xss : List (List Ins)) (lo : Nat), e = .returned (.agg #[.int .i64 c, v]) ∧ ProgOwn w' lo v xss ∧ Below B w w' ∧ (g < lo ∧ Cur lo1 w' g ∧ SmallL xss) ∧ ∀ b cs, Bk w b cs 33 → Bk w' b cs 33
set_option maxHeartbeats 3200000 in
theorem l02Bend (B g : Nat) (v : Value) (c : Int) (xss : List (List Ins)) (w : World) {lo lo1 : Nat} (h : Cur lo w g) (hP : ProgOwn w lo1 v xss) (hS : SmallSS xss) (hx3 : xss.length ≤ 3) (hBg : B ≤ g) (hgl : g < lo1) (hll : lo1 ≤ w.heap.size) :
    Calls Try.prog 87 #[.pointer (some ⟨g, 0, none⟩), .agg #[.int .i64 c, v]] w (BentP B lo g w) := by
  have hg := h.lt
  have hgk : Hid (∀ b cs, Bk w b cs 33 → b ≠ g) := Lib.hid (by
    intro b cs k hh
    subst hh
    obtain ⟨_, _, _, _, _, hk, _⟩ := h
    unfold Bk at hk k
    rw [k] at hk
    simp at hk)
  obtain ⟨i, hi, hiz0, hiz1, hiz2⟩ := info_parts infoCodesD
  obtain ⟨A, cv, rfl, hnc, hcm⟩ : ∃ A cv, v = .slice A xss.length cv ∧ xss.length ≤ cv ∧ cv ≤ 9223372036854775807 := by
    obtain ⟨vs, h1, h2⟩ := hP
    exact owns_slice h1
  have kB := (Bk.new w #[.int .i64 c, .slice A xss.length cv] 33).alloc (.cells #[.int .i64 0, .slice none 0 0] 33)
  have kA := Bk.new (w.alloc (.cells #[.int .i64 c, .slice A xss.length cv] 33)) #[.int .i64 0, .slice none 0 0] 33
  rw [World.size_alloc] at kA
  have hb0 := ((Below.refl _ w).alloc (Nat.le_refl _) (.cells #[.int .i64 c, .slice A xss.length cv] 33)).alloc (by simp) (.cells #[.int .i64 0, .slice none 0 0] 33)
  have hcu := h.below hb0
  have hPr := hP.below hb0
  have ho := Only.of_below hb0 [g]
  go_enter Try.func87, Try.ntmps87
  go_wp2_with fail
  refine (l01Below g 4 _ hcu (WalkArith.wf_i64 (by omega))).mono ?_
  rintro e w1 ⟨x, hx, rfl, hcu1, ho1⟩
  have kA1 := kA.only ho1 (by simp; omega)
  have kB1 := kB.only ho1 (by simp; omega)
  have hP1 := hPr.only ho1 hgl
  have hot1 := ho.trans ho1
  have hz1 : w.heap.size + 2 ≤ w1.heap.size := by have := ho1.size; simpa using this
  have hx4 : x = 0 ∨ x = 1 ∨ x = 2 ∨ x = 3 := by omega
  clear kA kB hcu hPr ho ho1 hx hb0 hP
  rcases hx4 with rfl | rfl | rfl | rfl
  · have HP : Hid (Rd (w1.alloc (.cells #[.int .i64 0, .int .i64 1, .int .i64 16, .int .i64 17] 3)) (.slice (some ⟨w1.heap.size, 0, none⟩) 4 4) 1 4 (ints [0, 1, 16, 17])) := Lib.hid (by exact rd_lit w1 [0, 1, 16, 17] 3 (by simp))
    have kA3 := kA1.alloc (.cells #[.int .i64 0, .int .i64 1, .int .i64 16, .int .i64 17] 3)
    have kB3 := kB1.alloc (.cells #[.int .i64 0, .int .i64 1, .int .i64 16, .int .i64 17] 3)
    have hb3 := (Below.refl _ w1).alloc (Nat.le_refl _) (.cells #[.int .i64 0, .int .i64 1, .int .i64 16, .int .i64 17] 3)
    have hcu3 := hcu1.below hb3
    have hP3 := hP1.below hb3
    have hot3 := hot1.alloc (.cells #[.int .i64 0, .int .i64 1, .int .i64 16, .int .i64 17] 3)
    clear kA1 kB1 hcu1 hot1 hP1 hb3
    go_wp2_with fail
    refine (l01PickInt g _ [0, 1, 16, 17] _ hcu3 HP.out (by simp) (by intro A n c he ad ha; injection he with e1; subst e1; injection ha with ha; subst ha; simp; omega)).mono ?_
    rintro e w4 ⟨z, hzz, rfl, hcu4, ho4⟩
    have kB4 := kB3.only ho4 (by simp; omega)
    have kA4 := kA3.only ho4 (by simp; omega)
    have kB5 := kB4.set_ 0 (.int .i64 z)
    have kA5 := kA4.far (p := ⟨w.heap.size, 0, none⟩) (by show w.heap.size + 1 ≠ w.heap.size; omega) (.int .i64 z)
    have hP4 := hP3.only ho4 hgl
    have hot4 := hot3.trans ho4
    obtain ⟨hbx0, hbf0⟩ := kB4.at_ 0 rfl
    obtain ⟨hcx0, hcf0⟩ := kB5.at_ 0 rfl
    obtain ⟨hcx1, hcf1⟩ := kB5.at_ 1 rfl
    obtain ⟨hax0, haf0⟩ := kA5.at_ 0 rfl
    obtain ⟨hax1, haf1⟩ := kA5.at_ 1 rfl
    have kF := (kA5.set_ 0 (.int .i64 z)).set_ 1 (.slice A xss.length cv)
    obtain ⟨hr0, -⟩ := kF.at_ 0 rfl
    obtain ⟨hr1, -⟩ := kF.at_ 1 rfl
    have HE := Lib.hid (And.intro hP4 hot4)
    have HCU := Lib.hid hcu4
    clear hzz hP4 hot4 hot3 hP3 ho4 hcu3 hcu4
    go_wp2_with fail
    have hF := ((HE.out.2.setNew (p := ⟨w.heap.size, 0, none⟩) (Nat.le_refl _) (.int .i64 z)).setNew (p := ⟨w.heap.size + 1, 0, none⟩) (by show w.heap.size ≤ w.heap.size + 1; omega) (.int .i64 z)).setNew (p := ⟨w.heap.size + 1, 1, none⟩) (by show w.heap.size ≤ w.heap.size + 1; omega) (.slice A xss.length cv)
    exact bodyPost_ret (v := .agg #[.int .i64 z, .slice A xss.length cv]) (by simp [results, Try.results87, go_sem, hr0, hr1]) rfl
      ⟨_, z, xss, lo1, rfl, (HE.out.1.setT kB4 _ |>.setT kA5 _ |>.setT (kA5.set_ 0 (.int .i64 z)) _), hF.below (by omega) (by simpa using hBg), ⟨hgl, (((HCU.out).setFar (p := ⟨w.heap.size, 0, none⟩) (by show g < w.heap.size; exact hg) _).setFar (p := ⟨w.heap.size + 1, 0, none⟩) (by show g < w.heap.size + 1; omega) _).setFar (p := ⟨w.heap.size + 1, 1, none⟩) (by show g < w.heap.size + 1; omega) _, SmallL.of hS hx3⟩, fun b cs k => k.only hF (by simpa using hgk.out b cs k)⟩
  · obtain ⟨hbx0, hbf0⟩ := kB1.at_ 0 rfl
    obtain ⟨hbx1, hbf1⟩ := kB1.at_ 1 rfl
    obtain ⟨vs, hO1, hC1⟩ := hP1
    have hsz : lo1 ≤ w1.heap.size := by omega
    have hBt : Below lo1 w1 w1 := Below.refl _ _
    have HC := Lib.hid hC1
    clear hC1
    go_wp2_with (at_builtin; refine wpList_append_own _ rfl _ _ 31 rfl (lo1) 57 i (.slice none 0 0) 1 24 Try.underlying31 hi hiz0 hiz1 hiz2 rfl (by decide) _ _ _ rfl (hO1.alloc _) ⟨w1.heap.size, 0, none⟩ 2 2 [.slice none 0 0, .slice none 0 0] rfl rfl (new_cells _ _ _) (by simp [Value.oneCell']) (by unfold maxLen; omega) (by omega) (by have := hsz; simp; omega) ?_)
    intro vo3 w3 ho6 hg6 _
    have hB6 := (hBt.alloc hsz _).grown hg6 (by have := hsz; simp; omega) (fun k hk => by have := (hO1.lt k hk).1; omega)
    have hO6 : w3.ownsRow lo1 57 1 vo3 (xss.length + 2) (vs ++ [.slice none 0 0, .slice none 0 0]) := ho6
    obtain ⟨A3, c3, rfl, hc3, hc3m⟩ := owns_slice hO6
    have hN : Obj := .cells #[.slice none 0 0, .slice none 0 0] 57
    have kB3 := (kB1.alloc (.cells #[.slice none 0 0, .slice none 0 0] 57)).grown hg6 (owns_neT hO1 kB1 (by decide))
    have kA3 := (kA1.alloc (.cells #[.slice none 0 0, .slice none 0 0] 57)).grown hg6 (owns_neT hO1 kA1 (by decide))
    have hnil : w3.ownsRow lo1 74 4 (.slice none 0 0) ([] : List Ins).length (flc []) := ⟨rfl, .inl ⟨rfl, rfl⟩⟩
    have hC3 := CodesOwn.snoc hnil (CodesOwn.snoc hnil (HC.out.map fun v n cs h => (h.alloc (.cells #[.slice none 0 0, .slice none 0 0] 57)).kept hg6 (own_ne (h.alloc (.cells #[.slice none 0 0, .slice none 0 0] 57)) (hO1.alloc (.cells #[.slice none 0 0, .slice none 0 0] 57)) (by decide))))
    have hP3 : ProgOwn w3 lo1 (.slice A3 (xss.length + 2) c3) (xss ++ [[]] ++ [[]]) := ⟨_, by simpa using hO6, by simpa using hC3⟩
    have kB5 := kB3.set_ 1 (.slice A3 (xss.length + 2) c3)
    have kA5 := kA3.far (p := ⟨w.heap.size, 1, none⟩) (by show w.heap.size + 1 ≠ w.heap.size; omega) (.slice A3 (xss.length + 2) c3)
    obtain ⟨hdx1, hdf1⟩ := kB3.at_ 1 rfl
    obtain ⟨hcx0, hcf0⟩ := kB5.at_ 0 rfl
    obtain ⟨hcx1, hcf1⟩ := kB5.at_ 1 rfl
    obtain ⟨hax0, haf0⟩ := kA5.at_ 0 rfl
    obtain ⟨hax1, haf1⟩ := kA5.at_ 1 rfl
    have kF := (kA5.set_ 0 (.int .i64 c)).set_ 1 (.slice A3 (xss.length + 2) c3)
    obtain ⟨hr0, -⟩ := kF.at_ 0 rfl
    obtain ⟨hr1, -⟩ := kF.at_ 1 rfl
    have hBB : Below B w w3 := (hot1.below (by omega) (by simpa using hBg)).trans (hB6.mono (by omega))
    have hK3 : ∀ b cs, Bk w b cs 33 → Bk w3 b cs 33 := fun b cs k => by
      have k1 := k.only hot1 (by simpa using hgk.out b cs k)
      exact (k1.alloc (.cells #[.slice none 0 0, .slice none 0 0] 57)).grown hg6 (owns_neT hO1 k1 (by decide))
    have HE := Lib.hid (And.intro hP3 (And.intro hBB hK3))
    have HCU := Lib.hid (hcu1.belowB hB6 hgl)
    clear hP3 hBB hK3 hC3 hO6 ho6 hO1 hg6 hot1 hcu1 hB6 hBt hN
    go_wp2_with fail
    exact bodyPost_ret (v := .agg #[.int .i64 c, .slice A3 (xss.length + 2) c3]) (by simp [results, Try.results87, go_sem, hr0, hr1]) rfl
      ⟨_, c, _, lo1, rfl, (HE.out.1.setT kB3 _ |>.setT kA5 _ |>.setT (kA5.set_ 0 (.int .i64 c)) _), ((HE.out.2.1.setCell (p := ⟨w.heap.size, 1, none⟩) (by show B ≤ w.heap.size; omega) _).setCell (p := ⟨w.heap.size + 1, 0, none⟩) (by show B ≤ w.heap.size + 1; omega) _).setCell (p := ⟨w.heap.size + 1, 1, none⟩) (by show B ≤ w.heap.size + 1; omega) _, ⟨hgl, (((HCU.out).setFar (p := ⟨w.heap.size, 1, none⟩) (by show g < w.heap.size; exact hg) _).setFar (p := ⟨w.heap.size + 1, 0, none⟩) (by show g < w.heap.size + 1; omega) _).setFar (p := ⟨w.heap.size + 1, 1, none⟩) (by show g < w.heap.size + 1; omega) _, SmallL.two hS hx3⟩, fun b cs k => (((HE.out.2.2 b cs k).far (p := ⟨w.heap.size, 1, none⟩) (by have := k.lt; show b ≠ w.heap.size; omega) _).far (p := ⟨w.heap.size + 1, 0, none⟩) (by have := k.lt; show b ≠ w.heap.size + 1; omega) _).far (p := ⟨w.heap.size + 1, 1, none⟩) (by have := k.lt; show b ≠ w.heap.size + 1; omega) _⟩
  · have kB5 := kB1.set_ 1 (.slice none 0 0)
    have kA5 := kA1.far (p := ⟨w.heap.size, 1, none⟩) (by show w.heap.size + 1 ≠ w.heap.size; omega) (.slice none 0 0)
    obtain ⟨hbx1, hbf1⟩ := kB1.at_ 1 rfl
    obtain ⟨hcx0, hcf0⟩ := kB5.at_ 0 rfl
    obtain ⟨hcx1, hcf1⟩ := kB5.at_ 1 rfl
    obtain ⟨hax0, haf0⟩ := kA5.at_ 0 rfl
    obtain ⟨hax1, haf1⟩ := kA5.at_ 1 rfl
    have kF := (kA5.set_ 0 (.int .i64 c)).set_ 1 (.slice none 0 0)
    obtain ⟨hr0, -⟩ := kF.at_ 0 rfl
    obtain ⟨hr1, -⟩ := kF.at_ 1 rfl
    have HE := Lib.hid hot1
    have HCU := Lib.hid hcu1
    clear hP1 hot1 hcu1
    go_wp2_with fail
    have hF := ((HE.out.setNew (p := ⟨w.heap.size, 1, none⟩) (Nat.le_refl _) (.slice none 0 0)).setNew (p := ⟨w.heap.size + 1, 0, none⟩) (by show w.heap.size ≤ w.heap.size + 1; omega) (.int .i64 c)).setNew (p := ⟨w.heap.size + 1, 1, none⟩) (by show w.heap.size ≤ w.heap.size + 1; omega) (.slice none 0 0)
    exact bodyPost_ret (v := .agg #[.int .i64 c, .slice none 0 0]) (by simp [results, Try.results87, go_sem, hr0, hr1]) rfl
      ⟨_, c, [], lo1, rfl, ⟨[], ⟨rfl, .inl ⟨rfl, rfl⟩⟩, trivial⟩, hF.below (by omega) (by simpa using hBg), ⟨hgl, (((HCU.out).setFar (p := ⟨w.heap.size, 1, none⟩) (by show g < w.heap.size; exact hg) _).setFar (p := ⟨w.heap.size + 1, 0, none⟩) (by show g < w.heap.size + 1; omega) _).setFar (p := ⟨w.heap.size + 1, 1, none⟩) (by show g < w.heap.size + 1; omega) _, by simp, by simp⟩, fun b cs k => k.only hF (by simpa using hgk.out b cs k)⟩
  · obtain ⟨vs, hO1, hC1⟩ := hP1
    obtain ⟨m, hm⟩ : ∃ m, xss.length = m := ⟨_, rfl⟩
    have hvl := hC1.len
    rw [hm] at hO1 kB1 hnc hx3 hvl ⊢
    have HM := Lib.hid (And.intro hm hC1)
    have HM2 := Lib.hid hm
    have HS := Lib.hid hS
    clear hm hC1 hS
    obtain ⟨hbx0, hbf0⟩ := kB1.at_ 0 rfl
    obtain ⟨hbx1, hbf1⟩ := kB1.at_ 1 rfl
    obtain ⟨hax0, haf0⟩ := kA1.at_ 0 rfl
    obtain ⟨hax1, haf1⟩ := kA1.at_ 1 rfl
    have kF := (kA1.set_ 0 (.int .i64 c)).set_ 1 (.slice A m cv)
    obtain ⟨hr0, -⟩ := kF.at_ 0 rfl
    obtain ⟨hr1, -⟩ := kF.at_ 1 rfl
    have HO := Lib.hid (And.intro hO1 hot1)
    have HEnd : Hid (BentP B lo g w (.returned (.agg #[.int .i64 c, .slice A m cv])) ((w1.setCell ⟨w.heap.size + 1, 0, none⟩ (.int .i64 c)).setCell ⟨w.heap.size + 1, 1, none⟩ (.slice A m cv))) := Lib.hid (by
      have hP : ProgOwn w1 lo1 (.slice A m cv) xss := ⟨vs, by rw [HM.out.1]; exact hO1, HM.out.2⟩
      have hF := (hot1.setNew (p := ⟨w.heap.size + 1, 0, none⟩) (by show w.heap.size ≤ w.heap.size + 1; omega) (.int .i64 c)).setNew (p := ⟨w.heap.size + 1, 1, none⟩) (by show w.heap.size ≤ w.heap.size + 1; omega) (.slice A m cv)
      exact ⟨_, c, xss, lo1, rfl, (hP.setT kA1 _ |>.setT (kA1.set_ 0 (.int .i64 c)) _), hF.below (by omega) (by simpa using hBg), ⟨hgl, ((hcu1).setFar (p := ⟨w.heap.size + 1, 0, none⟩) (by show g < w.heap.size + 1; omega) _).setFar (p := ⟨w.heap.size + 1, 1, none⟩) (by show g < w.heap.size + 1; omega) _, SmallL.of HS.out (by rw [HM2.out]; exact hx3)⟩, fun b cs k => k.only hF (by simpa using hgk.out b cs k)⟩)
    by_cases hm0 : (0 : Int) < m
    · obtain ⟨gA, rfl, hgA⟩ := owns_formT hO1 (by omega)
      obtain ⟨x0, rest, hxs⟩ : ∃ x0 rest, xss = x0 :: rest := List.exists_cons_of_ne_nil (by intro hh; have := HM.out.1; rw [hh] at this; simp at this; omega)
      obtain ⟨v0, vr, hvs⟩ : ∃ v0 vr, vs = v0 :: vr := List.exists_cons_of_ne_nil (by intro hh; rw [hh] at hvl; simp at hvl; omega)
      have HC := HM.out.2
      rw [hxs, hvs] at HC
      obtain ⟨hO0, hCr⟩ := HC
      have hsm0 := HS.out x0 (by rw [hxs]; exact List.mem_cons_self ..)
      have hcr0 : w1.cell? ⟨gA, 0, none⟩ = some v0 := (hO1.cellAt 0 (by omega)).trans (by rw [hvs]; rfl)
      have hcf0 := hO1.frozenAt 0
      obtain ⟨A0, c0, rfl, hnc0, hcm0⟩ := owns_slice hO0
      obtain ⟨n0, hn0⟩ : ∃ n0, x0.length = n0 := ⟨_, rfl⟩
      have hRd0 : Rd w1 (.slice A0 n0 c0) 4 x0.length (flc x0) := by
        obtain ⟨bs, h1, -⟩ := Own.of_owns hO0
        rw [← hn0]
        exact h1.rd
      rw [hn0] at hcr0 hnc0
      have hn16 : n0 ≤ 16 := by have := hsm0.1; omega
      have HX := Lib.hid (And.intro hxs (And.intro hvs (And.intro hn0 (And.intro hCr (And.intro hsm0.2 hRd0)))))
      clear hxs hvs hn0 hO0 hCr hsm0 hRd0 hvl HM hot1 hO1
      by_cases hk0 : (0 : Int) < n0
      · go_wp2_with fail
        refine (l02Codes (.slice A0 n0 c0) x0 _ HX.out.2.2.2.2.2 (by rw [HX.out.2.2.1]; omega)).mono ?_
        rintro e w2 ⟨vC, rfl, hOC, hb2⟩
        rw [HX.out.2.2.1] at hOC
        obtain ⟨AC, cC, rfl, hncC, hcmC⟩ := owns_slice hOC
        obtain ⟨gc, rfl, hgc⟩ := owns_formT hOC (by omega)
        have hcu2 := hcu1.below hb2
        have ho2 := Only.of_below hb2 [g]
        clear hcu1 hbx0 hbf0 hbx1 hbf1 hax0 haf0 hax1 haf1 hcr0 hcf0
        go_wp2_with fail
        refine (l01Below g n0 _ hcu2 (WalkArith.wf_i64 (by omega))).mono ?_
        rintro e w3 ⟨j, ⟨j0, j1⟩, rfl, hcu3, ho3⟩
        have j2 : j < n0 := by omega
        obtain ⟨j, rfl⟩ := Int.eq_ofNat_of_zero_le j0
        clear j1
        have j3 : j < n0 := by omega
        have hO3 := owns_onlyQ hOC ho3 (by have := hcu2.lt; simp; have := hll; omega)
        obtain ⟨⟨xo, xr, xs', xn⟩, hxj⟩ : ∃ x, x0[j]? = some x := ⟨x0[j]'(by rw [HX.out.2.2.1]; exact j3), List.getElem?_eq_getElem _⟩
        have hcA := fun i (hi : i < 4) => (hO3.cellAt (j * 4 + i) (by omega)).trans (flc_at hxj i hi)
        have hc0 : w3.cell? ⟨gc, j * 4, none⟩ = some (.int .i64 xo) := hcA 0 (by omega)
        have hc1 : w3.cell? ⟨gc, j * 4 + 1, none⟩ = some (.int .i64 xr) := hcA 1 (by omega)
        have hc2 : w3.cell? ⟨gc, j * 4 + 2, none⟩ = some (.int .i64 xs') := hcA 2 (by omega)
        have hc3 : w3.cell? ⟨gc, j * 4 + 3, none⟩ = some (.int .i64 xn) := hcA 3 (by omega)
        have hsx : SmallI ⟨xo, xr, xs', xn⟩ := HX.out.2.2.2.2.1 _ (List.mem_of_getElem? hxj)
        have HJ := Lib.hid (And.intro hxj (And.intro hO3 (ho2.trans ho3)))
        clear hxj hcA hO3 ho2 ho3 hOC hcu2
        go_wp2_with fail
        refine (l02BendInstr g ⟨xo, xr, xs', xn⟩ _ hcu3 hsx).mono ?_
        rintro e w4 ⟨⟨yo, yr, ys, yn⟩, -, rfl, hcu4, ho4⟩
        have hgl4 : g < w.heap.size + 2 := by omega
        have hO4 := owns_onlyQ HJ.out.2.1 ho4 (by simp; omega)
        have hot4 := HJ.out.2.2.trans ho4
        have hjL : j < x0.length := by rw [HX.out.2.2.1]; exact j3
        have hcA := fun i (hi : i < 4) => (hO4.cellAt (j * 4 + i) (by omega)).trans (flc_at HJ.out.1 i hi)
        have hd0 : w4.cell? ⟨gc, j * 4, none⟩ = some (.int .i64 xo) := hcA 0 (by omega)
        have hd1 : w4.cell? ⟨gc, j * 4 + 1, none⟩ = some (.int .i64 xr) := hcA 1 (by omega)
        have hd2 : w4.cell? ⟨gc, j * 4 + 2, none⟩ = some (.int .i64 xs') := hcA 2 (by omega)
        have hd3 : w4.cell? ⟨gc, j * 4 + 3, none⟩ = some (.int .i64 xn) := hcA 3 (by omega)
        have hf0 := hO4.frozenAt (j * 4)
        have hf1 := hO4.frozenAt (j * 4 + 1)
        have hf2 := hO4.frozenAt (j * 4 + 2)
        have hf3 := hO4.frozenAt (j * 4 + 3)
        have hO5 : Hid (((((w4.setCell ⟨gc, j * 4, none⟩ (.int .i64 yo)).setCell ⟨gc, j * 4 + 1, none⟩ (.int .i64 yr)).setCell ⟨gc, j * 4 + 2, none⟩ (.int .i64 ys)).setCell ⟨gc, j * 4 + 3, none⟩ (.int .i64 yn)).ownsRow w1.heap.size 74 4 (.slice (some ⟨gc, 0, none⟩) n0 cC) (x0.set j ⟨yo, yr, ys, yn⟩).length (flc (x0.set j ⟨yo, yr, ys, yn⟩))) := Lib.hid (by
          have := flc_set4 (L := x0) (k := j) ⟨yo, yr, ys, yn⟩ hjL ▸ owns_set4 hO4 (j * 4) (j * 4 + 1) (j * 4 + 2) (j * 4 + 3) (.int .i64 yo) (.int .i64 yr) (.int .i64 ys) (.int .i64 yn)
          rw [List.length_set, HX.out.2.2.1]
          exact this)
        have ho5 := (((hot4.setNew (p := ⟨gc, j * 4, none⟩) hgc (.int .i64 yo)).setNew (p := ⟨gc, j * 4 + 1, none⟩) hgc (.int .i64 yr)).setNew (p := ⟨gc, j * 4 + 2, none⟩) hgc (.int .i64 ys)).setNew (p := ⟨gc, j * 4 + 3, none⟩) hgc (.int .i64 yn)
        generalize hW5 : ((((w4.setCell ⟨gc, j * 4, none⟩ (.int .i64 yo)).setCell ⟨gc, j * 4 + 1, none⟩ (.int .i64 yr)).setCell ⟨gc, j * 4 + 2, none⟩ (.int .i64 ys)).setCell ⟨gc, j * 4 + 3, none⟩ (.int .i64 yn)) = w5 at hO5 ho5
        have HW5 := Lib.hid hW5
        have kB5 := kB1.only ho5 (by simp; omega)
        have kA5 := kA1.only ho5 (by simp; omega)
        have hR5 := owns_onlyQ HO.out.1 ho5 (by simp; omega)
        have hcr5 : w5.cell? ⟨gA, 0, none⟩ = some (.slice A0 n0 c0) := (hR5.cellAt 0 (by omega)).trans (by rw [HX.out.2.1, ← HX.out.2.2.1]; rfl)
        have hcf5 := hR5.frozenAt 0
        obtain ⟨hbx0, hbf0⟩ := kB5.at_ 0 rfl
        obtain ⟨hbx1, hbf1⟩ := kB5.at_ 1 rfl
        have hcu5 : Cur lo w5 g := by
          rw [← hW5]
          exact ((((hcu4).setFar (p := ⟨gc, j * 4, none⟩) (by show g < gc; omega) _).setFar (p := ⟨gc, j * 4 + 1, none⟩) (by show g < gc; omega) _).setFar (p := ⟨gc, j * 4 + 2, none⟩) (by show g < gc; omega) _).setFar (p := ⟨gc, j * 4 + 3, none⟩) (by show g < gc; omega) _
        have HCU := Lib.hid (hcu5.setFar (p := ⟨gA, 0, none⟩) (by show g < gA; omega) (.slice (some ⟨gc, 0, none⟩) n0 cC))
        clear hW5 hcA hO4 hot4 hcu5
        go_upto_region 13 with (fail)
        rw [HW5.out]
        have hst := hR5.stored 0 (.slice (some ⟨gc, 0, none⟩) n0 cC)
        have kB6 := kB5.far (p := ⟨gA, 0, none⟩) (owns_neT hR5 kB5 (by decide) gA rfl) (.slice (some ⟨gc, 0, none⟩) n0 cC)
        have kA6 := kA5.far (p := ⟨gA, 0, none⟩) (owns_neT hR5 kA5 (by decide) gA rfl) (.slice (some ⟨gc, 0, none⟩) n0 cC)
        have hP6 : ProgOwn (w5.setCell ⟨gA, 0, none⟩ (.slice (some ⟨gc, 0, none⟩) n0 cC)) lo1 (.slice (some ⟨gA, 0, none⟩) m cv) (x0.set j ⟨yo, yr, ys, yn⟩ :: rest) := by
          have hO6 := owns_mono hO5.out (base' := lo1) (by omega)
          have hml : (x0.set j (⟨yo, yr, ys, yn⟩ : Ins) :: rest).length = m := by have := HM2.out; rw [HX.out.1] at this; simpa using this
          refine ⟨.slice (some ⟨gc, 0, none⟩) n0 cC :: vr, ?_, hO6.kept hst.2 (own_ne hO6 hR5 (by decide)), HX.out.2.2.2.1.map fun v n cs h => (owns_onlyQ h ho5 (by simp; omega)).kept hst.2 (own_ne (owns_onlyQ h ho5 (by simp; omega)) hR5 (by decide))⟩
          have h1 := hst.1
          rw [HX.out.2.1] at h1
          rw [hml]
          exact h1
        have hB6 : Below B w (w5.setCell ⟨gA, 0, none⟩ (.slice (some ⟨gc, 0, none⟩) n0 cC)) := ((HO.out.2.trans ho5).below (by omega) (by simpa using hBg)).setCell (p := ⟨gA, 0, none⟩) (by show B ≤ gA; omega) _
        obtain ⟨hbz0, hbzf0⟩ := kB6.at_ 0 rfl
        obtain ⟨hbz1, hbzf1⟩ := kB6.at_ 1 rfl
        obtain ⟨haz0, hazf0⟩ := kA6.at_ 0 rfl
        obtain ⟨haz1, hazf1⟩ := kA6.at_ 1 rfl
        have kF6 := (kA6.set_ 0 (.int .i64 c)).set_ 1 (.slice (some ⟨gA, 0, none⟩) m cv)
        obtain ⟨hrz0, -⟩ := kF6.at_ 0 rfl
        obtain ⟨hrz1, -⟩ := kF6.at_ 1 rfl
        have hK6 : ∀ b cs, Bk w b cs 33 → Bk (w5.setCell ⟨gA, 0, none⟩ (.slice (some ⟨gc, 0, none⟩) n0 cC)) b cs 33 := fun b cs k => by
          have k5 := k.only (HO.out.2.trans ho5) (by simpa using hgk.out b cs k)
          exact k5.far (p := ⟨gA, 0, none⟩) (owns_neT hR5 k5 (by decide) gA rfl) _
        have HE := Lib.hid (And.intro hP6 (And.intro hB6 hK6))
        clear hP6 hB6 hK6 hst hR5 ho5 kF hr0 hr1
        go_wp2_with fail
        exact bodyPost_ret (v := .agg #[.int .i64 c, .slice (some ⟨gA, 0, none⟩) m cv]) (by simp [results, Try.results87, go_sem, hrz0, hrz1]) rfl
          ⟨_, c, _, lo1, rfl, (HE.out.1.setT kA6 _ |>.setT (kA6.set_ 0 (.int .i64 c)) _), (HE.out.2.1.setCell (p := ⟨w.heap.size + 1, 0, none⟩) (by show B ≤ w.heap.size + 1; omega) _).setCell (p := ⟨w.heap.size + 1, 1, none⟩) (by show B ≤ w.heap.size + 1; omega) _, ⟨hgl, ((HCU.out).setFar (p := ⟨w.heap.size + 1, 0, none⟩) (by show g < w.heap.size + 1; omega) _).setFar (p := ⟨w.heap.size + 1, 1, none⟩) (by show g < w.heap.size + 1; omega) _, SmallL.putHead HX.out.1 HS.out (by rw [HM2.out]; exact hx3)⟩, fun b cs k => ((HE.out.2.2 b cs k).far (p := ⟨w.heap.size + 1, 0, none⟩) (by have := k.lt; show b ≠ w.heap.size + 1; omega) _).far (p := ⟨w.heap.size + 1, 1, none⟩) (by have := k.lt; show b ≠ w.heap.size + 1; omega) _⟩
      · go_wp2_with fail
        exact bodyPost_ret (v := .agg #[.int .i64 c, .slice (some ⟨gA, 0, none⟩) m cv]) (by simp [results, Try.results87, go_sem, hr0, hr1]) rfl HEnd.out
    · go_wp2_with fail
      exact bodyPost_ret (v := .agg #[.int .i64 c, .slice A m cv]) (by simp [results, Try.results87, go_sem, hr0, hr1]) rfl HEnd.out
end Go.Proofs.Ytgbgjlmkmlhefaa
