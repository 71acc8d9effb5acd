/- Contracts of chapter 3's program functions (package impl): the queue's take, DrainOne. Condition: the slices can be read. -/
import Derived.Test.YtiflooopfpcelaaB3
import Derived.Test.YtiflooopfpcelaaI3
namespace Go.Proofs.Ytiflooopfpcelaa
set_option maxRecDepth 20000
set_option linter.unusedSimpArgs false
set_option linter.unusedVariables false
open Go.ChangeShapes Go.WideShapes Go.ChangeAt Go.RowKit
set_option linter.unusedVariables false
theorem drM_len (ys : List P2) (M : List Int) : (drM ys M).length = M.length := by
  cases ys with
  | nil => rfl
  | cons y zs => simp only [drM]; split; exact pokeF_len _ _ _; rfl
theorem drB_len (ys : List P2) (M : List Int) : (drB ys M).length ≤ ys.length := by
  unfold drB
  split <;> simp
def headP : List P2 → P2
  | [] => ⟨0, 0⟩
  | x :: _ => x
theorem take_none (v : Value) (xs : List P2) (w : World) (h : Rd w v 2 xs.length (flc2 xs)) (hl : xs.length = 0) :
    Calls Try.prog 143 #[v] w fun e w' => e = .returned (.tuple #[.agg #[.int .i64 0, .int .i64 0], .slice none 0 0, .bool false]) ∧ Below w.heap.size w w' := by
  obtain ⟨A, c, rfl, -⟩ := id h
  have hl0 : ((xs.length : Int) == 0) = true := by rw [hl]; rfl
  have hB := ((Below.refl w.heap.size w).alloc (Nat.le_refl _) (.cells #[.int .i64 0, .int .i64 0] 94)).alloc (by simp) (.cells #[.int .i64 0, .int .i64 0] 94)
  have HB2 := Lib.hid hB
  clear hB h hl
  go_enter Try.func143, Try.ntmps143
  go_wp2_with fail
  refine bodyPost_ret (v := .tuple #[.agg #[.int .i64 0, .int .i64 0], .slice none 0 0, .bool false]) (by simp [results, Try.results143, go_sem]) rfl ⟨rfl, ?_⟩
  exact HB2.out
theorem take_some (b o c : Nat) (xs : List P2) (x : P2) (w : World) (h : Rd w (.slice (some ⟨b, o, none⟩) xs.length c) 2 xs.length (flc2 xs)) (hx : xs[0]? = some x) (hsz : xs.length ≤ 16777215) :
    Calls Try.prog 143 #[.slice (some ⟨b, o, none⟩) xs.length c] w fun e w' => ∃ v', e = .returned (.tuple #[.agg #[.int .i64 x.a, .int .i64 x.b], v', .bool true]) ∧ w'.ownsRow (w.heap.size + 1) 94 2 v' xs.tail.length (flc2 xs.tail) ∧ Below w.heap.size w w' := by
  have hl : 0 < xs.length := (List.getElem?_eq_some_iff.1 hx).1
  obtain ⟨_, _, he, -, hnc, hc, hr⟩ := id h
  injection he with e1 e2 e3
  subst e1 e3
  unfold maxLen at hc
  obtain ⟨b', o', e, hbl, hcell⟩ := hr hl
  injection e with e
  injection e with e1 e2
  subst e1 e2
  obtain ⟨y, hyk, hy0, hy1⟩ := p2_at (k := 0) hcell hl
  obtain rfl : y = x := by have := hyk.out.symm.trans hx; injection this
  obtain ⟨xa, xb⟩ := y
  simp only [Nat.zero_mul, Nat.add_zero] at hy0 hy1
  have hl0 : ((xs.length : Int) == 0) = false := by rw [beq_eq_false_iff_ne]; omega
  have hl1 : (0 : Int) < xs.length := by omega
  have hl2 : (1 : Int) ≤ xs.length := by omega
  obtain ⟨ys, hys⟩ : ∃ ys, xs.tail = ys := ⟨_, rfl⟩
  obtain ⟨At, hAt⟩ : ∃ At, (if c = 1 then some (⟨b, o, none⟩ : Addr) else some ⟨b, o + 2, none⟩) = At := ⟨_, rfl⟩
  have HRt : Hid (∀ W, Below w.heap.size w W → Rd W (.slice At ys.length (c - 1)) 2 ys.length (flc2 ys)) := Lib.hid fun W hW => rd_tail (h.below hW) hl hys hAt
  have hn1 : xs.length - 1 = ys.length := by rw [← hys, List.length_tail]
  have hyl : ys.length ≤ 16777215 := by omega
  have HB1 := Lib.hid ((Below.refl w.heap.size w).alloc (Nat.le_refl _) (.cells #[.int .i64 0, .int .i64 0] 94))
  have K1 := Lib.hid (Bk.new w #[.int .i64 0, .int .i64 0] 94)
  obtain ⟨hd0, hg0⟩ := K1.out.at_ 0 (x := .int .i64 0) rfl
  obtain ⟨hd1, hg1⟩ := K1.out.at_ 1 (x := .int .i64 0) rfl
  have hz0 := (HB1.out.cell (p := ⟨b, o, none⟩) hbl).trans hy0
  have hz1 := (HB1.out.cell (p := ⟨b, o + 1, none⟩) hbl).trans hy1
  have HS : Hid (∀ W : World, Below w.heap.size w W → Below w.heap.size w W ∧ W.cell? ⟨b, o, none⟩ = some (.int .i64 xa) ∧ W.cell? ⟨b, o + 1, none⟩ = some (.int .i64 xb)) :=
    Lib.hid fun W hW => ⟨hW, (hW.cell (p := ⟨b, o, none⟩) hbl).trans hy0, (hW.cell (p := ⟨b, o + 1, none⟩) hbl).trans hy1⟩
  have hne : b ≠ w.heap.size := by omega
  rw [hys]
  clear h hr hcell hys hx hyk
  go_enter Try.func143, Try.ntmps143
  go_wp2_with fail
  go_region_held3 (fun W => Below w.heap.size w W ∧ W.cell? ⟨b, o, none⟩ = some (.int .i64 xa) ∧ W.cell? ⟨b, o + 1, none⟩ = some (.int .i64 xb)) (first | (exact HS.out _ HB1.out.drew) | (exact HS.out _ ((hS2.setCell (Nat.le_refl _) _).setCell (Nat.le_refl _) _)) | (exact HS.out _ (by assumption)))
    (first
      | (go_at_call 162; have hS := ‹Below w.heap.size w _ ∧ _›.1; refine (cloneQueue _ ys _ (HRt.out _ hS) (by omega)).mono ?_; rintro e w6 ⟨v6, rfl, hO6, hB6⟩; have k6 := Bk.below (by exact K1.out) hB6 (by exact K1.out.lt); obtain ⟨hq0, hr0⟩ := k6.at_ 0 (x := .int .i64 0) rfl; obtain ⟨hq1, hr1⟩ := k6.at_ 1 (x := .int .i64 0) rfl; have hS2 := hS.trans (hB6.mono hS.size); clear hS))
  have hO7 : w6.ownsRow (w.heap.size + 1) 94 2 v6 ys.length (flc2 ys) := by simpa using hO6
  have hO8 := ownsRow_setCell_below (ownsRow_setCell_below hO7 (a := ⟨w.heap.size, 0, none⟩) (by show w.heap.size < w.heap.size + 1; omega) (.int .i64 xa)) (a := ⟨w.heap.size, 1, none⟩) (by show w.heap.size < w.heap.size + 1; omega) (.int .i64 xb)
  have hB8 := (hS2.setCell (p := ⟨w.heap.size, 0, none⟩) (Nat.le_refl _) (.int .i64 xa)).setCell (p := ⟨w.heap.size, 1, none⟩) (Nat.le_refl _) (.int .i64 xb)
  obtain ⟨hq2, -⟩ := ((k6.set_ 0 (.int .i64 xa)).set_ 1 (.int .i64 xb)).at_ 0 (x := .int .i64 xa) rfl
  obtain ⟨hq3, -⟩ := ((k6.set_ 0 (.int .i64 xa)).set_ 1 (.int .i64 xb)).at_ 1 (x := .int .i64 xb) rfl
  have HE := Lib.hid (And.intro hO8 hB8)
  clear hO7 hO8 hB8 hO6 hB6 hS2
  go_wp2_with fail
  exact bodyPost_ret (v := .tuple #[.agg #[.int .i64 xa, .int .i64 xb], v6, .bool true]) (by simp [results, Try.results143, go_sem, hq2, hq3]) rfl ⟨_, rfl, HE.out.1, HE.out.2⟩
set_option maxHeartbeats 3200000 in
theorem impl_DrainOne (v u : Value) (xs : List P2) (ms : List Int) (w : World) (h : Rd w v 2 xs.length (flc2 xs)) (hm : Rd w u 1 ms.length (ints ms)) (hsz : xs.length ≤ 16777215) (hsm : ms.length ≤ 16777215) :
    Calls Try.prog 128 #[v, .agg #[u]] w (RetDrainM (drB xs ms) (drM xs ms) (drOk xs ms) w) := by
  obtain ⟨A, c, rfl, -, hnc, hc, hr⟩ := id h
  obtain ⟨Am, cm, rfl, -, hncm, hcm, -⟩ := id hm
  unfold maxLen at hc hcm
  have hBa := ((Below.refl w.heap.size w).alloc (Nat.le_refl _) (.cells #[.slice Am ms.length cm] 38)).alloc (by simp) (.cells #[.slice none 0 0] 38)
  have k1 := (Bk.new w #[.slice Am ms.length cm] 38).alloc (.cells #[.slice none 0 0] 38)
  have k2 := Bk.new (w.alloc (.cells #[.slice Am ms.length cm] 38)) #[.slice none 0 0] 38
  rw [World.size_alloc] at k2
  obtain ⟨W0, hW0⟩ : ∃ W0, (w.alloc (.cells #[.slice Am ms.length cm] 38)).alloc (.cells #[.slice none 0 0] 38) = W0 := ⟨_, rfl⟩
  have hsz0 : W0.heap.size = w.heap.size + 2 := by rw [← hW0]; simp
  rw [hW0] at hBa k1 k2
  have HR : Hid (∀ W, Below w.heap.size w W → Rd W (.slice A xs.length c) 2 xs.length (flc2 xs)) := Lib.hid fun W hW => h.below hW
  have HM : Hid (∀ W, Below w.heap.size w W → Rd W (.slice Am ms.length cm) 1 ms.length (ints ms)) := Lib.hid fun W hW => hm.below hW
  clear h hm
  have K1 := Lib.hid k1
  have K2 := Lib.hid k2
  have HBa := Lib.hid hBa
  have HZ0 := Lib.hid hsz0
  clear k1 k2 hBa hsz0
  by_cases hl : xs.length = 0
  · have HF : Hid (drB xs ms = xs ∧ drM xs ms = ms ∧ drOk xs ms = false) := Lib.hid (by
      cases xs with
      | nil => simp [drB, drM, drOk]
      | cons x xs => simp at hl)
    have HL := Lib.hid hl
    clear hr hl
    go_enter Try.func128, Try.ntmps128
    go_wp2_with fail
    refine (take_none _ xs _ (HR.out _ HBa.out) HL.out).mono ?_
    rintro e w1 ⟨rfl, hb1⟩
    have hB1 := (HBa.out.trans (hb1.mono HBa.out.size)).alloc (HBa.out.trans (hb1.mono HBa.out.size)).size (.cells #[.int .i64 0, .int .i64 0] 94)
    have k1 := (K1.out.below hb1 K1.out.lt).alloc (.cells #[.int .i64 0, .int .i64 0] 94)
    have k2 := (K2.out.below hb1 K2.out.lt).alloc (.cells #[.int .i64 0, .int .i64 0] 94)
    clear hW0
    go_wp2_with fail
    refine (impl_BufOk _ xs _ (HR.out _ hB1)).mono ?_
    rintro e w2 ⟨rfl, hb2⟩
    have hB2 := hB1.trans (hb2.mono hB1.size)
    have k3 := k1.below hb2 k1.lt
    have k4 := k2.below hb2 k2.lt
    obtain ⟨hc3, -⟩ := k3.at_ 0 (x := .slice Am ms.length cm) rfl
    obtain ⟨hc4, hf4⟩ := k4.at_ 0 (x := .slice none 0 0) rfl
    have hlc : w.heap.size + 2 ≤ w2.heap.size := by have := k4.lt; omega
    have HBc := Lib.hid hB2
    have KC1 := Lib.hid k3
    have KC2 := Lib.hid k4
    clear hB1 k1 k2 hb1 hb2 hB2 k3 k4
    cases hb : bufOk xs
    · clear hb
      go_wp2_with fail
      go_region_law (first
        | (refine step_call rfl 126 Try.func126 (by kernel_rfl) (by kernel_rfl) _ _ rfl #[(.slice A xs.length c)] (by simp [Act.eval, Act.put]) (cloneSlots _ xs _ (HR.out _ HBc.out.drew) (by omega)) ?_; rintro e w6 ⟨v6, rfl, hO6, hB6⟩; refine ⟨_, rfl, ?_⟩; have k6 := Bk.below (by exact KC1.out) hB6 (by exact KC1.out.lt); have q6 := Bk.below (by exact KC2.out) hB6 (by exact KC2.out.lt); obtain ⟨hd0, -⟩ := k6.at_ 0 (x := .slice Am ms.length cm) rfl; have hB6' : Below w.heap.size w w6 := HBc.out.drew.trans (hB6.mono (by simp <;> omega)); have K6 := Lib.hid q6; have O6 := Lib.hid hO6; have B6 := Lib.hid hB6'; clear k6 q6 hO6 hB6')
        | (refine step_call rfl 127 Try.func127 (by kernel_rfl) (by kernel_rfl) _ _ rfl #[.agg #[.slice Am ms.length cm]] (by simp [Act.eval, Act.put]) (copyMem _ ms _ (HM.out _ B6.out) (by omega)) ?_; rintro e w7 ⟨v7, bs7, rfl, ho7, hbs7, hb7⟩; obtain ⟨A7, c7, rfl, -, -⟩ := ho7.slice; refine ⟨_, rfl, ?_⟩; have q7 := K6.out.below hb7 K6.out.lt; obtain ⟨hd2, hg2⟩ := q7.at_ 0 (x := .slice none 0 0) rfl))
      all_goals
        have HE := Lib.hid (drain_back (x := .slice A7 ms.length c7) (L := drB xs ms) (M := drM xs ms) (ok := drOk xs ms) B6.out O6.out (by simp <;> omega) ho7 hbs7 hb7 (by have := hB6.size; simp at this; omega) HF.out)
        go_wp2_with fail
        exact bodyPost_ret (v := .tuple #[v6, .agg #[.slice A7 ms.length c7], .bool false]) (by simp [results, Try.results128, go_sem, hd2]) rfl HE.out
    · clear hb
      go_wp2_with fail
      go_region_law (first
        | (refine step_call rfl 126 Try.func126 (by kernel_rfl) (by kernel_rfl) _ _ rfl #[(.slice A xs.length c)] (by simp [Act.eval, Act.put]) (cloneSlots _ xs _ (HR.out _ HBc.out.drew) (by omega)) ?_; rintro e w6 ⟨v6, rfl, hO6, hB6⟩; refine ⟨_, rfl, ?_⟩; have k6 := Bk.below (by exact KC1.out) hB6 (by exact KC1.out.lt); have q6 := Bk.below (by exact KC2.out) hB6 (by exact KC2.out.lt); obtain ⟨hd0, -⟩ := k6.at_ 0 (x := .slice Am ms.length cm) rfl; have hB6' : Below w.heap.size w w6 := HBc.out.drew.trans (hB6.mono (by simp <;> omega)); have K6 := Lib.hid q6; have O6 := Lib.hid hO6; have B6 := Lib.hid hB6'; clear k6 q6 hO6 hB6')
        | (refine step_call rfl 127 Try.func127 (by kernel_rfl) (by kernel_rfl) _ _ rfl #[.agg #[.slice Am ms.length cm]] (by simp [Act.eval, Act.put]) (copyMem _ ms _ (HM.out _ B6.out) (by omega)) ?_; rintro e w7 ⟨v7, bs7, rfl, ho7, hbs7, hb7⟩; obtain ⟨A7, c7, rfl, -, -⟩ := ho7.slice; refine ⟨_, rfl, ?_⟩; have q7 := K6.out.below hb7 K6.out.lt; obtain ⟨hd2, hg2⟩ := q7.at_ 0 (x := .slice none 0 0) rfl))
      all_goals
        have HE := Lib.hid (drain_back (x := .slice A7 ms.length c7) (L := drB xs ms) (M := drM xs ms) (ok := drOk xs ms) B6.out O6.out (by simp <;> omega) ho7 hbs7 hb7 (by have := hB6.size; simp at this; omega) HF.out)
        go_wp2_with fail
        exact bodyPost_ret (v := .tuple #[v6, .agg #[.slice A7 ms.length c7], .bool false]) (by simp [results, Try.results128, go_sem, hd2]) rfl HE.out
  · obtain ⟨b, o, rfl, hbl, hcell⟩ := hr (by omega)
    obtain ⟨x, hxk⟩ : ∃ x, xs[0]? = some x := ⟨xs[0]'(by omega), List.getElem?_eq_getElem _⟩
    obtain ⟨ys, hys⟩ : ∃ ys, xs.tail = ys := ⟨_, rfl⟩
    have hts := take_some b o c xs x W0 (HR.out _ HBa.out) hxk hsz
    rw [hys] at hts
    have hyl : ys.length ≤ 16777215 := by rw [← hys, List.length_tail]; omega
    have HF : Hid (drOk xs ms = (bufOk xs && pokeOk ms x.a x.b) ∧ drB xs ms = (if bufOk xs && pokeOk ms x.a x.b then ys else xs) ∧ drM xs ms = (if bufOk xs then pokeF ms x.a x.b else ms)) := Lib.hid (by
      cases xs with
      | nil => simp at hl
      | cons y zs =>
        simp at hxk
        subst hxk
        simp at hys
        subst hys
        simp [drB, drM, drOk])
    have HWF : Hid (bufOk xs = true → (Lit.int .i64 x.a).wf = true) := Lib.hid fun hb => (slot_wf hb hxk).2.2
    have HTS := Lib.hid hts
    obtain ⟨xa, xb⟩ := x
    clear hr hcell hys hl hts hxk
    go_enter Try.func128, Try.ntmps128
    go_wp2_with fail
    refine HTS.out.mono ?_
    rintro e w1 ⟨v1, rfl, hO1, hb1⟩
    have hB1 := (HBa.out.trans (hb1.mono HBa.out.size)).alloc (HBa.out.trans (hb1.mono HBa.out.size)).size (.cells #[.int .i64 xa, .int .i64 xb] 94)
    have k1 := (K1.out.below hb1 K1.out.lt).alloc (.cells #[.int .i64 xa, .int .i64 xb] 94)
    have k2 := (K2.out.below hb1 K2.out.lt).alloc (.cells #[.int .i64 xa, .int .i64 xb] 94)
    have k3 := Bk.new w1 #[.int .i64 xa, .int .i64 xb] 94
    have hO2 := hO1.alloc (.cells #[.int .i64 xa, .int .i64 xb] 94)
    have hs1 := hb1.size
    clear hW0 hO1
    go_wp2_with fail
    refine (impl_BufOk _ xs _ (HR.out _ hB1)).mono ?_
    rintro e w2 ⟨rfl, hb2⟩
    have hB2 := hB1.trans (hb2.mono hB1.size)
    have k4 := k1.below hb2 k1.lt
    have k5 := k2.below hb2 k2.lt
    have k6 := k3.below hb2 k3.lt
    have hO3 := ownsRow_below hO2 hb2
    obtain ⟨hc3, -⟩ := k4.at_ 0 (x := .slice Am ms.length cm) rfl
    obtain ⟨hc4, hf4⟩ := k5.at_ 0 (x := .slice none 0 0) rfl
    obtain ⟨hc5, -⟩ := k6.at_ 0 (x := .int .i64 xa) rfl
    obtain ⟨hc6, -⟩ := k6.at_ 1 (x := .int .i64 xb) rfl
    have hlc : w.heap.size + 2 ≤ w2.heap.size := by have := k5.lt; omega
    have HBc := Lib.hid hB2
    have KC1 := Lib.hid k4
    have KC2 := Lib.hid k5
    have HO3 := Lib.hid hO3
    clear hB1 k1 k2 k3 hb1 hb2 hB2 k4 k5 k6 hO2 hO3
    cases hb : bufOk xs
    · have HF2 : Hid (drB xs ms = xs ∧ drM xs ms = ms ∧ drOk xs ms = false) := Lib.hid ⟨by rw [HF.out.2.1, hb]; rfl, by rw [HF.out.2.2, hb]; rfl, by rw [HF.out.1, hb]; rfl⟩
      have HF := HF2
      clear HF2 hb
      go_wp2_with fail
      go_region_law (first
        | (refine step_call rfl 126 Try.func126 (by kernel_rfl) (by kernel_rfl) _ _ rfl #[(.slice (some ⟨b, o, none⟩) xs.length c)] (by simp [Act.eval, Act.put]) (cloneSlots _ xs _ (HR.out _ HBc.out.drew) (by omega)) ?_; rintro e w6 ⟨v6, rfl, hO6, hB6⟩; refine ⟨_, rfl, ?_⟩; have k6 := Bk.below (by exact KC1.out) hB6 (by exact KC1.out.lt); have q6 := Bk.below (by exact KC2.out) hB6 (by exact KC2.out.lt); obtain ⟨hd0, -⟩ := k6.at_ 0 (x := .slice Am ms.length cm) rfl; have hB6' : Below w.heap.size w w6 := HBc.out.drew.trans (hB6.mono (by simp <;> omega)); have K6 := Lib.hid q6; have O6 := Lib.hid hO6; have B6 := Lib.hid hB6'; clear k6 q6 hO6 hB6')
        | (refine step_call rfl 127 Try.func127 (by kernel_rfl) (by kernel_rfl) _ _ rfl #[.agg #[.slice Am ms.length cm]] (by simp [Act.eval, Act.put]) (copyMem _ ms _ (HM.out _ B6.out) (by omega)) ?_; rintro e w7 ⟨v7, bs7, rfl, ho7, hbs7, hb7⟩; obtain ⟨A7, c7, rfl, -, -⟩ := ho7.slice; refine ⟨_, rfl, ?_⟩; have q7 := K6.out.below hb7 K6.out.lt; obtain ⟨hd2, hg2⟩ := q7.at_ 0 (x := .slice none 0 0) rfl))
      all_goals
        have HE := Lib.hid (drain_back (x := .slice A7 ms.length c7) (L := drB xs ms) (M := drM xs ms) (ok := drOk xs ms) B6.out O6.out (by simp <;> omega) ho7 hbs7 hb7 (by have := hB6.size; simp at this; omega) HF.out)
        go_wp2_with fail
        exact bodyPost_ret (v := .tuple #[v6, .agg #[.slice A7 ms.length c7], .bool false]) (by simp [results, Try.results128, go_sem, hd2]) rfl HE.out
    · have hwf := HWF.out hb
      have HB := Lib.hid hb
      clear hb
      go_wp2_with fail
      refine (impl_Poke _ ms xa xb _ (HM.out _ HBc.out) (by omega) hwf).mono ?_
      rintro e w9 ⟨v9, bs9, rfl, ho9, hbs9, hb9⟩
      obtain ⟨A9, c9, rfl, -, -⟩ := ho9.slice
      have hB9 := HBc.out.trans (hb9.mono HBc.out.size)
      have hBd := hB9.alloc hB9.size (.cells #[.slice A9 (pokeF ms xa xb).length c9] 38)
      have k7 := (KC1.out.below hb9 KC1.out.lt).alloc (.cells #[.slice A9 (pokeF ms xa xb).length c9] 38)
      have k8 := (KC2.out.below hb9 KC2.out.lt).alloc (.cells #[.slice A9 (pokeF ms xa xb).length c9] 38)
      have hO9 := (ownsRow_below HO3.out hb9).alloc (.cells #[.slice A9 (pokeF ms xa xb).length c9] 38)
      have ho10 := ho9.below ((Below.refl _ _).alloc (Nat.le_refl _) (.cells #[.slice A9 (pokeF ms xa xb).length c9] 38))
      obtain ⟨hc7, -⟩ := k7.at_ 0 (x := .slice Am ms.length cm) rfl
      obtain ⟨hc8, hf8⟩ := k8.at_ 0 (x := .slice none 0 0) rfl
      have hlc9 : w.heap.size + 2 ≤ w9.heap.size + 1 := by have := k8.lt; simp at this; omega
      cases hp : pokeOk ms xa xb
      · have HF2 : Hid (drB xs ms = xs ∧ drM xs ms = ms ∧ drOk xs ms = false) := Lib.hid ⟨by rw [HF.out.2.1, HB.out, hp]; rfl, by rw [HF.out.2.2, HB.out]; simp [pokeF, hp], by rw [HF.out.1, HB.out, hp]; rfl⟩
        have HF := HF2
        have HBd := Lib.hid hBd
        have KD1 := Lib.hid k7
        have KD2 := Lib.hid k8
        clear HF2 hp k7 k8 hBd hB9 hb9 hc3 hc4 hf4 hc5 hc6 ho10 hO9 ho9
        go_wp2_with fail
        go_region_law (first
          | (refine step_call rfl 126 Try.func126 (by kernel_rfl) (by kernel_rfl) _ _ rfl #[(.slice (some ⟨b, o, none⟩) xs.length c)] (by simp [Act.eval, Act.put]) (cloneSlots _ xs _ (HR.out _ HBd.out.drew) (by omega)) ?_; rintro e w6 ⟨v6, rfl, hO6, hB6⟩; refine ⟨_, rfl, ?_⟩; have k6 := Bk.below (by exact KD1.out) hB6 (by exact KD1.out.lt); have q6 := Bk.below (by exact KD2.out) hB6 (by exact KD2.out.lt); obtain ⟨hd0, -⟩ := k6.at_ 0 (x := .slice Am ms.length cm) rfl; have hB6' : Below w.heap.size w w6 := HBd.out.drew.trans (hB6.mono (by simp <;> omega)); have K6 := Lib.hid q6; have O6 := Lib.hid hO6; have B6 := Lib.hid hB6'; clear k6 q6 hO6 hB6')
          | (refine step_call rfl 127 Try.func127 (by kernel_rfl) (by kernel_rfl) _ _ rfl #[.agg #[.slice Am ms.length cm]] (by simp [Act.eval, Act.put]) (copyMem _ ms _ (HM.out _ B6.out) (by omega)) ?_; rintro e w7 ⟨v7, bs7, rfl, ho7, hbs7, hb7⟩; obtain ⟨A7, c7, rfl, -, -⟩ := ho7.slice; refine ⟨_, rfl, ?_⟩; have q7 := K6.out.below hb7 K6.out.lt; obtain ⟨hd2, hg2⟩ := q7.at_ 0 (x := .slice none 0 0) rfl))
        all_goals
          have HE := Lib.hid (drain_back (x := .slice A7 ms.length c7) (L := drB xs ms) (M := drM xs ms) (ok := drOk xs ms) B6.out O6.out (by simp <;> omega) ho7 hbs7 hb7 (by have := hB6.size; simp at this; omega) HF.out)
          go_wp2_with fail
          exact bodyPost_ret (v := .tuple #[v6, .agg #[.slice A7 ms.length c7], .bool false]) (by simp [results, Try.results128, go_sem, hd2]) rfl HE.out
      · have HF2 : Hid (drB xs ms = ys ∧ drM xs ms = pokeF ms xa xb ∧ drOk xs ms = true) := Lib.hid ⟨by rw [HF.out.2.1, HB.out, hp]; rfl, by rw [HF.out.2.2, HB.out]; rfl, by rw [HF.out.1, HB.out, hp]; rfl⟩
        have hE : RetDrainM (drB xs ms) (drM xs ms) (drOk xs ms) w (.returned (.tuple #[v1, .agg #[.slice A9 (pokeF ms xa xb).length c9], .bool true])) ((w9.alloc (.cells #[.slice A9 (pokeF ms xa xb).length c9] 38)).setCell ⟨w.heap.size + 1, 0, none⟩ (.slice A9 (pokeF ms xa xb).length c9)).drew := by
          rw [HF2.out.1, HF2.out.2.1, HF2.out.2.2]
          obtain ⟨bs1, h1, hl1⟩ := Own.of_owns HO3.out
          have hz := HZ0.out
          have hi1 := h1.lt
          have hz2 := HBc.out.size
          have h2 := (h1.below hb9).below ((Below.refl _ _).alloc (Nat.le_refl _) (.cells #[.slice A9 (pokeF ms xa xb).length c9] 38))
          have h3 := h2.far (b := w.heap.size + 1) (i := 0) (u := .slice A9 (pokeF ms xa xb).length c9) fun k hk => by have := hl1 k hk; omega
          have h4 := ho10.far (b := w.heap.size + 1) (i := 0) (u := .slice A9 (pokeF ms xa xb).length c9) fun k hk => by have := hbs9 k hk; omega
          exact ⟨v1, bs1, _, bs9, w2.heap.size, rfl, h3, h4, fun b hb => by have := hl1 b hb; omega, hi1, hbs9, hz2, (hBd.setCell (Nat.le_succ _) _).drew⟩
        have HE := Lib.hid hE
        have k10 := k8.set_ 0 (.slice A9 (pokeF ms xa xb).length c9)
        obtain ⟨hc10, hf10⟩ := (Bk.new w9 #[.slice A9 (pokeF ms xa xb).length c9] 38).at_ 0 (x := .slice A9 (pokeF ms xa xb).length c9) rfl
        clear HF2 hp hE hB9 hb9 hc3 hc4 hf4 hc5 hc6 ho10 hO9 ho9
        go_wp2_with fail
        go_region
        all_goals
          go_wp2_with fail
          exact bodyPost_ret (v := .tuple #[v1, .agg #[.slice A9 (pokeF ms xa xb).length c9], .bool true]) (by simp [results, Try.results128, go_sem, hc8]) rfl HE.out
end Go.Proofs.Ytiflooopfpcelaa
