/- Contract of the draw of a program (package spec). Conditions: the cursor's bytes can be read; codes of at most sixteen instructions. -/
import Derived.Test.YtgbgjlmkmlhefaaDrawQ
namespace Go.Proofs.Ytgbgjlmkmlhefaa
set_option maxRecDepth 20000
set_option linter.unusedSimpArgs false
set_option linter.unusedVariables false
open Go.ChangeShapes Go.WideShapes Go.ChangeAt Go.RowKit
set_option linter.unusedVariables false
theorem owns_formQ {w : World} {base : Nat} {e : TypeId} {size : Nat} {A : Option Addr} {n m c : Nat} {xs : List Value} (h : w.ownsRow base e size (.slice A m c) n xs) (hn : 0 < n) : ∃ g, A = some ⟨g, 0, none⟩ ∧ base ≤ g := by
  obtain ⟨_, ⟨_, h0⟩ | ⟨g, cap, cur, h1, h2, _⟩⟩ := h
  · omega
  · injection h1 with h1
    exact ⟨g, h1, h2⟩
theorem small_set {L : List Ins} {k : Nat} {x : Ins} (h : ∀ y ∈ L, SmallI y) (hx : SmallI x) : ∀ y ∈ L.set k x, SmallI y := by
  intro y hy
  rcases List.mem_or_eq_of_mem_set hy with h1 | rfl
  · exact h y h1
  · exact hx
/-- four stores put an instruction into a code of one's own -/
theorem owns_putI {w : World} {base g n cap : Nat} {e : TypeId} {L : List Ins} (h : w.ownsRow base e 4 (.slice (some ⟨g, 0, none⟩) n cap) n (flc L)) (k : Nat) (x : Ins) (hk : k < L.length) :
    ((((w.setCell ⟨g, k * 4, none⟩ (.int .i64 x.o)).setCell ⟨g, k * 4 + 1, none⟩ (.int .i64 x.r)).setCell ⟨g, k * 4 + 2, none⟩ (.int .i64 x.s)).setCell ⟨g, k * 4 + 3, none⟩ (.int .i64 x.n)).ownsRow base e 4 (.slice (some ⟨g, 0, none⟩) n cap) n (flc (L.set k x)) :=
  flc_set4 x hk ▸ owns_set4 h (k * 4) (k * 4 + 1) (k * 4 + 2) (k * 4 + 3) (.int .i64 x.o) (.int .i64 x.r) (.int .i64 x.s) (.int .i64 x.n)
/-- while a code's second instruction is written: what is known, whatever its cells hold by now -/
def Mid12 (g lo gp gc : Nat) (W0 : World) (x : Int) (u : Value) (K cC : Nat) (L1 : List Ins) (W : World) : Prop :=
  Cur lo W g ∧ Only [g] W0 W ∧ Bk W gp #[.int .i64 x, u] 33 ∧ ∃ cs, W.ownsRow W0.heap.size 74 4 (.slice (some ⟨gc, 0, none⟩) K cC) K cs ∧ ∀ j, j < 4 ∨ 8 ≤ j → cs[j]? = (flc L1)[j]?
section
variable {g lo gp gc K cC : Nat} {W0 W W' : World} {x : Int} {u : Value} {L1 : List Ins}
theorem Mid12.go (h : Mid12 g lo gp gc W0 x u K cC L1 W) (hc : Cur lo W' g) (ho : Only [g] W W') (hg : g < gp) (hp : gp < W0.heap.size) : Mid12 g lo gp gc W0 x u K cC L1 W' := by
  obtain ⟨h1, h2, h3, cs, h4, h5⟩ := h
  exact ⟨hc, h2.trans ho, h3.only ho (by simp; omega), cs, owns_onlyQ h4 ho (by simp; omega), h5⟩
theorem Mid12.drew (h : Mid12 g lo gp gc W0 x u K cC L1 W) (hg : g < gp) (hp : gp < W0.heap.size) : Mid12 g lo gp gc W0 x u K cC L1 W.drew := h.go (h.1.below (Below.refl _ _).drew) (Only.of_below (Below.refl _ _).drew _) hg hp
theorem Mid12.store (h : Mid12 g lo gp gc W0 x u K cC L1 W) (hg : g < gp) (hp : gp < W0.heap.size) (hc : W0.heap.size ≤ gc) (j : Nat) (hj : 4 ≤ j ∧ j < 8) (z : Value) : Mid12 g lo gp gc W0 x u K cC L1 (W.setCell ⟨gc, j, none⟩ z) := by
  obtain ⟨h1, h2, h3, cs, h4, h5⟩ := h
  exact ⟨h1.setFar (p := ⟨gc, j, none⟩) (by show g < gc; omega) z, h2.setNew (p := ⟨gc, j, none⟩) hc z, h3.far (p := ⟨gc, j, none⟩) (by show gp ≠ gc; omega) z, _, (h4.stored j z).1, fun i hi => by rw [List.getElem?_set_ne (by omega)]; exact h5 i hi⟩
theorem mid_held {a : Ins} (h : Mid12 g lo gp gc W0 x u K cC L1 W) (hx : L1[0]? = some a) (hK : 1 < K) :
    W.cell? ⟨gc, 1, none⟩ = some (.int .i64 a.r) ∧ W.cell? ⟨gp, 0, none⟩ = some (.int .i64 x) ∧ Hid (Mid12 g lo gp gc W0 x u K cC L1 W) := by
  have h0 := h
  obtain ⟨h1, h2, h3, cs, h4, h5⟩ := h
  exact ⟨(h4.cellAt 1 (by omega)).trans ((h5 1 (.inl (by omega))).trans (flc_at hx 1 (by omega))), (h3.at_ 0 rfl).1, Lib.hid h0⟩
theorem Mid12.cell (h : Mid12 g lo gp gc W0 x u K cC L1 W) (hK : 1 < K) (j : Nat) (hj : j < 8) : (∃ v, W.cell? ⟨gc, j, none⟩ = some v) ∧ W.frozen? ⟨gc, j, none⟩ = false := by
  obtain ⟨h1, h2, h3, cs, h4, h5⟩ := h
  refine ⟨?_, h4.frozenAt j⟩
  have hl := h4.1
  exact ⟨cs[j]'(by omega), (h4.cellAt j (by omega)).trans (List.getElem?_eq_getElem _)⟩
theorem Mid12.done (h : Mid12 g lo gp gc W0 x u K cC L1 W) (hL : L1.length = K) (hK : 1 < K) (y : Ins) :
    ((((W.setCell ⟨gc, 4, none⟩ (.int .i64 y.o)).setCell ⟨gc, 5, none⟩ (.int .i64 y.r)).setCell ⟨gc, 6, none⟩ (.int .i64 y.s)).setCell ⟨gc, 7, none⟩ (.int .i64 y.n)).ownsRow W0.heap.size 74 4 (.slice (some ⟨gc, 0, none⟩) K cC) K (flc (L1.set 1 y)) := by
  obtain ⟨h1, h2, h3, cs, h4, h5⟩ := h
  have h6 := owns_set4 h4 4 5 6 7 (.int .i64 y.o) (.int .i64 y.r) (.int .i64 y.s) (.int .i64 y.n)
  have hl := h4.1
  have hfl := flc_len L1
  have he : ((((cs.set 4 (.int .i64 y.o)).set 5 (.int .i64 y.r)).set 6 (.int .i64 y.s)).set 7 (.int .i64 y.n)) = flc (L1.set 1 y) := by
    rw [← flc_set4 (k := 1) y (by omega)]
    apply List.ext_getElem?
    intro j
    by_cases hj : j < 4 ∨ 8 ≤ j
    · simp only [Nat.one_mul, Nat.reduceAdd]
      rw [List.getElem?_set_ne (by omega), List.getElem?_set_ne (by omega), List.getElem?_set_ne (by omega), List.getElem?_set_ne (by omega), h5 j hj,
        List.getElem?_set_ne (by omega), List.getElem?_set_ne (by omega), List.getElem?_set_ne (by omega), List.getElem?_set_ne (by omega)]
    · obtain rfl | rfl | rfl | rfl : j = 4 ∨ j = 5 ∨ j = 6 ∨ j = 7 := by omega
      all_goals simp [List.getElem?_set, hl, hfl, hL]
      all_goals omega
  rwa [he] at h6
end
set_option maxHeartbeats 20000000 in
theorem l02DrawProg (g : Nat) (most : Int) (w : World) {lo : Nat} (h : Cur lo w g) (hm : 1 ≤ most ∧ most ≤ 16) :
    Calls Try.prog 69 #[.pointer (some ⟨g, 0, none⟩), .int .i64 most] w (DrawnP lo g w) := by
  have hg := h.lt
  obtain ⟨i, hi, hiz0, hiz1, hiz2⟩ := info_parts infoCodesD
  have kR := Bk.new w #[.int .i64 0, .slice none 0 0] 33
  have hcu0 := h.below ((Below.refl _ _).alloc (Nat.le_refl _) (.cells #[.int .i64 0, .slice none 0 0] 33))
  have ho0 := (Only.refl [g] w).alloc (.cells #[.int .i64 0, .slice none 0 0] 33)
  go_enter Try.func69, Try.ntmps69
  go_wp2_with fail
  refine (l01Below g 3 _ hcu0 (WalkArith.wf_i64 (by omega))).mono ?_
  rintro e w1 ⟨x, hx, rfl, hcu1, ho1⟩
  have hx2 : 0 ≤ x ∧ x ≤ 2 := by omega
  have kR1 := kR.only ho1 (by simp; omega)
  have hot1 := ho0.trans ho1
  have hz1 : w.heap.size + 1 ≤ w1.heap.size := by have := ho1.size; simpa using this
  clear kR hcu0 ho0 ho1 hx
  have kR2 := kR1.alloc (.cells #[.int .i64 (1 + x), .slice none 0 0] 33)
  have kP2 := Bk.new w1 #[.int .i64 (1 + x), .slice none 0 0] 33
  have hcu1b := hcu1.below ((Below.refl _ _).alloc (Nat.le_refl _) (.cells #[.int .i64 (1 + x), .slice none 0 0] 33))
  have hot1b := hot1.alloc (.cells #[.int .i64 (1 + x), .slice none 0 0] 33)
  have hgn : g < w1.heap.size := hcu1.lt
  go_wp2_with fail
  refine (l01Below g 3 _ hcu1b (WalkArith.wf_i64 (by omega))).mono ?_
  rintro e w2 ⟨z, hz, rfl, hcu2, ho2⟩
  have hz2 : 0 ≤ z ∧ z ≤ 2 := by omega
  have kP4 := kP2.only ho2 (by simp; omega)
  have kR4 := kR2.only ho2 (by simp; omega)
  have hot2 := hot1b.trans ho2
  have hO4 : w2.ownsRow (w1.heap.size + 1) 57 1 (.slice none 0 0) 0 [] := ⟨rfl, .inl ⟨rfl, rfl⟩⟩
  have hC4 : CodesOwn w2 (w1.heap.size + 1) [] [] := trivial
  clear kR1 kR2 kP2 hcu1 hcu1b ho2 hot1 hot1b hz
  go_wp2_with fail
  go_loopw [7] (fun j wr => ∃ (t : Nat) (xss : List (List Ins)) (vs : List Value) (Ac : Option Addr) (cc : Nat), (t : Int) ≤ 1 + z ∧ j = .int .i64 t ∧ cc ≤ 9223372036854775807 ∧ t ≤ cc ∧ Hid (xss.length = t ∧ SmallSS xss) ∧ wr.ownsRow (w1.heap.size + 1) 57 1 (.slice Ac t cc) t vs ∧ CodesOwn wr (w1.heap.size + 1) vs xss ∧ Bk wr w1.heap.size #[.int .i64 (1 + x), .slice Ac t cc] 33 ∧ Bk wr w.heap.size #[.int .i64 0, .slice none 0 0] 33 ∧ Cur lo wr g ∧ Only [g] w wr) (fun j _ => 3 - (intOf j).toNat)
  case atStart => exact ⟨0, [], [], none, 0, by omega, rfl, by omega, Nat.le_refl _, Lib.hid ⟨rfl, by intro a ha; cases ha⟩, hO4, hC4, kP4, kR4, hcu2, hot2⟩
  case round =>
    obtain ⟨t, xss, vs, Ac, cc, ht, rfl, hcm, htc, HX, hO, hC, kP, kR, hcu, ho⟩ := hrel
    clear hO4 hC4 kP4 kR4 hcu2 hot2
    by_cases hlt : (t : Int) < 1 + z
    · go_wp2_with fail
      refine (l01Below g most _ hcu (WalkArith.wf_i64 (by omega))).mono ?_
      rintro e wA ⟨y, hy, rfl, hcuA, hoA⟩
      have hy2 : 0 ≤ y ∧ y ≤ 15 := by omega
      have hsr : w1.heap.size + 1 ≤ wr.heap.size := kP.lt
      have kPA := kP.only hoA (by simp; omega)
      have kRA := kR.only hoA (by simp; omega)
      have HS := Lib.hid (And.intro hO (And.intro hC (And.intro hoA (And.intro kP kR))))
      clear hO hC kP kR hcu hoA hy
      go_upto_region 7 with (fail)
      go_cut [31] (fun c wx => ∃ b : Bool, c = .bool b ∧ wx = wA)
      case first =>
        by_cases h3 : 1 + z = 3
        · have hb3 : ((1 + z : Int) == 3) = true := by simp [h3]
          clear h3
          by_cases h4 : 3 < 1 + y
          · go_wp2_with fail
            go_meet
            exact ⟨true, rfl, rfl⟩
          · go_wp2_with fail
            go_meet
            exact ⟨false, rfl, rfl⟩
        · have hb3 : ((1 + z : Int) == 3) = false := by simp [h3]
          clear h3
          go_wp2_with fail
          go_meet
          exact ⟨false, rfl, rfl⟩
      case rest =>
        obtain ⟨b, rfl, rfl⟩ := hcut
        go_upto_if 31 with (fail)
        go_cut [8] (fun v wx => ∃ K : Nat, 1 ≤ K ∧ K ≤ 16 ∧ v = .int .i64 K ∧ wx = wc)
        case first =>
          cases b
          · go_wp2_with fail
            go_meet
            exact ⟨(1 + y).toNat, by omega, by omega, by rw [Int.toNat_of_nonneg (by omega)], rfl⟩
          · go_wp2_with fail
            go_meet
            exact ⟨3, by omega, by omega, rfl, rfl⟩
        case rest =>
          obtain ⟨K, hK1, hK2, rfl, rfl⟩ := hcut
          obtain ⟨hpx0, hpf0⟩ := kPA.at_ 0 rfl
          go_wp2_with fail
          refine (l02DrawCode g (1 + x) K _ hcuA (by omega) (by omega)).mono ?_
          rintro e wB ⟨vC, L, rfl, hLK, hsm, hOB, hcuB, hoB⟩
          obtain ⟨AC, cC, rfl, hcC, hcCm⟩ := owns_slice hOB
          rw [hLK] at hOB hcC ⊢
          have kPB := kPA.only hoB (by simp; omega)
          have kRB := kRA.only hoB (by simp; omega)
          have HL := Lib.hid (And.intro hLK (And.intro hsm (And.intro hOB hoB)))
          clear hLK hsm hOB hoB hcuA kPA kRA hpx0 hpf0
          go_upto_region 10 with (fail)
          go_cut [43] (fun c wx => ∃ b : Bool, c = .bool b ∧ (b = true → 1 < K) ∧ Cur lo wx g ∧ Only [g] wB wx)
          case first =>
            go_wp2_with fail
            refine (l01Below g 3 _ hcuB (WalkArith.wf_i64 (by omega))).mono ?_
            rintro e wC ⟨q, hq, rfl, hcuC, hoC⟩
            have hq0 : 0 ≤ q := hq.1
            clear hq
            by_cases h5 : 0 < q
            · by_cases h6 : (1 : Int) < K
              · go_wp2_with fail
                go_meet
                exact ⟨true, rfl, fun _ => by omega, hcuC, hoC⟩
              · go_wp2_with fail
                go_meet
                exact ⟨false, congrArg Value.bool (by first | rfl | (simp; omega)), (fun h => by cases h), hcuC, hoC⟩
            · go_wp2_with fail
              go_meet
              exact ⟨false, congrArg Value.bool (by first | rfl | (simp; omega)), (fun h => by cases h), hcuC, hoC⟩
          case rest =>
            obtain ⟨b, rfl, hbK, hcuD, hoD⟩ := hcut
            have kPD := kPB.only hoD (by simp; omega)
            have kRD := kRB.only hoD (by simp; omega)
            have hOD := owns_onlyQ HL.out.2.2.1 hoD (by have := HL.out.2.2.2.size; have := HS.out.2.2.1.size; simp; omega)
            go_upto_if 43 with (fail)
            have hrw : Only [g] wr wc := (HS.out.2.2.1.trans HL.out.2.2.2).trans hoD
            have hOD2 := owns_mono hOD (base' := wr.heap.size) HS.out.2.2.1.size
            have HD := Lib.hid (And.intro hrw (And.intro hOD2 (And.intro kPD HL.out.2.1)))
            have HLK := Lib.hid HL.out.1
            clear hrw hOD hOD2 kPB kRB kRD hoD hcuB HL
            go_cut [9] (fun v wx => ∃ L' : List Ins, v = .slice AC K cC ∧ L'.length = K ∧ (∀ y ∈ L', SmallI y) ∧ wx.ownsRow wr.heap.size 74 4 (.slice AC K cC) K (flc L') ∧ Cur lo wx g ∧ Only [g] wr wx)
            case first =>
              cases b
              · clear kPD
                go_wp2_with fail
                go_meet
                exact ⟨L, rfl, HLK.out, HD.out.2.2.2, HD.out.2.1, hcuD, HD.out.1⟩
              · have hK1 : 1 < K := hbK rfl
                obtain ⟨gc, rfl, hgc⟩ := owns_formQ HD.out.2.1 (by omega)
                clear hbK kPD
                go_wp2_with fail
                refine (l01Below g 2 _ hcuD (WalkArith.wf_i64 (by omega))).mono ?_
                rintro e wE ⟨q1, hq1, rfl, hcuE, hoE⟩
                have hq1' : 0 ≤ q1 ∧ q1 ≤ 1 := by omega
                clear hq1 hcuD
                go_wp2_with fail
                refine (l01Below g 3 _ hcuE (WalkArith.wf_i64 (by omega))).mono ?_
                rintro e wF ⟨q2, hq2, rfl, hcuF, hoF⟩
                have hq2' : 0 ≤ q2 ∧ q2 ≤ 2 := by omega
                have hoF' := hoE.trans hoF
                have hOF := owns_onlyQ HD.out.2.1 hoF' (by simp; omega)
                have hl0 : 0 < L.length := by have := HLK.out; omega
                obtain ⟨a0, ha0⟩ : ∃ a, L[0]? = some a := ⟨L[0], List.getElem?_eq_getElem hl0⟩
                have hcA := fun j (hj : j < 4) => (hOF.cellAt j (by omega)).trans (by simpa using flc_at ha0 j hj)
                have hc0 : wF.cell? ⟨gc, 0, none⟩ = some (.int .i64 a0.o) := hcA 0 (by omega)
                have hc1 : wF.cell? ⟨gc, 1, none⟩ = some (.int .i64 a0.r) := hcA 1 (by omega)
                have hc2 : wF.cell? ⟨gc, 2, none⟩ = some (.int .i64 a0.s) := hcA 2 (by omega)
                have hc3 : wF.cell? ⟨gc, 3, none⟩ = some (.int .i64 a0.n) := hcA 3 (by omega)
                have hf0 := hOF.frozenAt 0
                have hf1 := hOF.frozenAt 1
                have hf2 := hOF.frozenAt 2
                have hf3 := hOF.frozenAt 3
                have hO0 := owns_putI hOF 0 ⟨0, q1, 0, 1 + q2⟩ hl0
                have kPF := HD.out.2.2.1.only hoF' (by simp; omega)
                have hM0 : Hid (Mid12 g lo w1.heap.size gc wr (1 + x) (.slice Ac t cc) K cC (L.set 0 ⟨0, q1, 0, 1 + q2⟩) ((((wF.setCell ⟨gc, 0, none⟩ (.int .i64 0)).setCell ⟨gc, 1, none⟩ (.int .i64 q1)).setCell ⟨gc, 2, none⟩ (.int .i64 0)).setCell ⟨gc, 3, none⟩ (.int .i64 (1 + q2)))) := Lib.hid ⟨
                  (((hcuF.setFar (p := ⟨gc, 0, none⟩) (by show g < gc; omega) _).setFar (p := ⟨gc, 1, none⟩) (by show g < gc; omega) _).setFar (p := ⟨gc, 2, none⟩) (by show g < gc; omega) _).setFar (p := ⟨gc, 3, none⟩) (by show g < gc; omega) _,
                  ((((HD.out.1.trans hoF').setNew (p := ⟨gc, 0, none⟩) hgc _).setNew (p := ⟨gc, 1, none⟩) hgc _).setNew (p := ⟨gc, 2, none⟩) hgc _).setNew (p := ⟨gc, 3, none⟩) hgc _,
                  (((kPF.far (p := ⟨gc, 0, none⟩) (by show w1.heap.size ≠ gc; omega) _).far (p := ⟨gc, 1, none⟩) (by show w1.heap.size ≠ gc; omega) _).far (p := ⟨gc, 2, none⟩) (by show w1.heap.size ≠ gc; omega) _).far (p := ⟨gc, 3, none⟩) (by show w1.heap.size ≠ gc; omega) _,
                  _, hO0, fun _ _ => rfl⟩
                have HL1 : Hid ((L.set 0 (⟨0, q1, 0, 1 + q2⟩ : Ins)).length = K ∧ (∀ y ∈ L.set 0 (⟨0, q1, 0, 1 + q2⟩ : Ins), SmallI y) ∧ (L.set 0 (⟨0, q1, 0, 1 + q2⟩ : Ins))[0]? = some ⟨0, q1, 0, 1 + q2⟩) := Lib.hid ⟨by rw [List.length_set]; exact HLK.out, small_set HD.out.2.2.2 (by unfold SmallI; simp; omega), by rw [List.getElem?_set_self hl0]⟩
                generalize L.set 0 (⟨0, q1, 0, 1 + q2⟩ : Ins) = L1 at hM0 HL1
                clear hcA hO0 kPF hcuE hcuF hoE hoF hoF' hOF ha0 hl0 hq2
                go_upto_region 12 with (fail)
                have hz3 : 0 ≤ 1 + x ∧ 1 + x ≤ 3 := by omega
                have hKa : (0 : Int) < K := by omega
                have hKb : (1 : Int) < K := by omega
                have hKc : 0 < K := by omega
                have hgr : w1.heap.size < wr.heap.size := by omega
                go_region_held3 (fun W => W.cell? ⟨gc, 1, none⟩ = some (.int .i64 q1) ∧ W.cell? ⟨w1.heap.size, 0, none⟩ = some (.int .i64 (1 + x)) ∧ Hid (Mid12 g lo w1.heap.size gc wr (1 + x) (.slice Ac t cc) K cC L1 W))
                  (first
                    | (exact mid_held (hM0.out.drew hgn hgr) HL1.out.2.2 hK1)
                    | (exact mid_held (Hid.out (by assumption)) HL1.out.2.2 hK1)
                    | (exact mid_held ((((Mid12.store (Hid.out (by assumption)) hgn hgr hgc 4 (by omega) _).store hgn hgr hgc 5 (by omega) _).store hgn hgr hgc 6 (by omega) _).store hgn hgr hgc 7 (by omega) _) HL1.out.2.2 hK1))
                  (first
                    | (go_at_call 88; have hS := (‹_ ∧ _ ∧ Hid (Mid12 g lo w1.heap.size gc wr (1 + x) (.slice Ac t cc) K cC L1 _)›).2.2; refine (l01Below g (1 + x) _ hS.out.1 (WalkArith.wf_i64 (by omega))).mono ?_; rintro e w9 ⟨q3, hq3, rfl, hc9, ho9⟩; have hq3' : 0 ≤ q3 ∧ q3 ≤ 2 := (by omega); have hS9 := Lib.hid (hS.out.go hc9 ho9 hgn hgr); obtain ⟨⟨v4, hc4⟩, hf4⟩ := hS9.out.cell hK1 4 (by omega); obtain ⟨⟨v5, hc5⟩, hf5⟩ := hS9.out.cell hK1 5 (by omega); obtain ⟨⟨v6, hc6⟩, hf6⟩ := hS9.out.cell hK1 6 (by omega); obtain ⟨⟨v7, hc7⟩, hf7⟩ := hS9.out.cell hK1 7 (by omega); clear hS hq3))
                all_goals
                  go_wp2_with fail
                  go_meet
                  exact ⟨L1.set 1 ⟨3, q1, 0, q3⟩, rfl, by rw [List.length_set]; exact HL1.out.1, small_set HL1.out.2.1 (by unfold SmallI; simp; omega), hS9.out.done HL1.out.1 hK1 ⟨3, q1, 0, q3⟩,
                    (((hS9.out.1.setFar (p := ⟨gc, 4, none⟩) (by show g < gc; omega) _).setFar (p := ⟨gc, 5, none⟩) (by show g < gc; omega) _).setFar (p := ⟨gc, 6, none⟩) (by show g < gc; omega) _).setFar (p := ⟨gc, 7, none⟩) (by show g < gc; omega) _,
                    (((hS9.out.2.1.setNew (p := ⟨gc, 4, none⟩) hgc _).setNew (p := ⟨gc, 5, none⟩) hgc _).setNew (p := ⟨gc, 6, none⟩) hgc _).setNew (p := ⟨gc, 7, none⟩) hgc _⟩
            case rest =>
              obtain ⟨L', rfl, hL', hsm, hOn, hcuN, hrN⟩ := hcut
              have kPN := HS.out.2.2.2.1.only hrN (by simp; omega)
              have kRN := HS.out.2.2.2.2.only hrN (by simp; omega)
              have hOP := owns_onlyQ HS.out.1 hrN (by simp; omega)
              have hCP := HS.out.2.1.map (W' := wc) (lo' := w1.heap.size + 1) fun v n cs h => owns_onlyQ h hrN (by simp; omega)
              have hsz : w1.heap.size + 1 ≤ wc.heap.size := by have := hrN.size; omega
              have hBt : Below (w1.heap.size + 1) wc wc := Below.refl _ _
              obtain ⟨hpx1, hpf1⟩ := kPN.at_ 1 rfl
              have hoN := ho.trans hrN
              have HN := Lib.hid (And.intro hCP (And.intro (owns_mono hOn (base' := w1.heap.size + 1) hsr) (And.intro hcuN (And.intro hoN (And.intro hL' hsm)))))
              have ht3 : t ≤ 2 := by omega
              clear hCP hOn hcuN hoN hrN hL' hsm ho
              go_wp2_with (at_builtin; refine wpList_append_own _ rfl _ _ 31 rfl (w1.heap.size+1) 57 i (.slice none 0 0) 1 24 Try.underlying31 hi hiz0 hiz1 hiz2 rfl (by decide) _ _ _ rfl (hOP.alloc _) ⟨wc.heap.size, 0, none⟩ 1 1 [.slice AC K cC] rfl rfl (new_cells _ _ _) (by simp [Value.oneCell']) (by unfold maxLen; omega) (by omega) (by have := hsz; simp; omega) ?_)
              intro vo3 w3 ho6 hg6 _
              have hB6 := (hBt.alloc hsz _).grown hg6 (by have := hsz; simp; omega) (fun k hk => by have := (hOP.lt k hk).1; omega)
              have hO6 : w3.ownsRow (w1.heap.size + 1) 57 1 vo3 (t + 1) (vs ++ [.slice AC K cC]) := ho6
              obtain ⟨A3, c3, rfl, hc3, hc3m⟩ := owns_slice hO6
              have kP6 := kPN.below hB6 (by omega)
              have kR6 := kRN.below hB6 (by omega)
              have kP7 := kP6.set_ 1 (.slice A3 (t + 1) c3)
              have kR7 := kR6.far (p := ⟨w1.heap.size, 1, none⟩) (by show w.heap.size ≠ w1.heap.size; omega) (.slice A3 (t + 1) c3)
              obtain ⟨hpy1, hpg1⟩ := kP6.at_ 1 rfl
              have hCn := HN.out.2.1
              have hC6 : CodesOwn w3 (w1.heap.size + 1) (vs ++ [.slice AC K cC]) (xss ++ [L']) := by
                refine CodesOwn.snoc ?_ (HN.out.1.map fun v n cs h => (h.alloc (.cells #[.slice AC K cC] 57)).kept hg6 (own_ne (h.alloc (.cells #[.slice AC K cC] 57)) (hOP.alloc (.cells #[.slice AC K cC] 57)) (by decide)))
                rw [HN.out.2.2.2.2.1]
                exact (hCn.alloc (.cells #[.slice AC K cC] 57)).kept hg6 (own_ne (hCn.alloc (.cells #[.slice AC K cC] 57)) (hOP.alloc (.cells #[.slice AC K cC] 57)) (by decide))
              have hC7 := hC6.map (W' := w3.setCell ⟨w1.heap.size, 1, none⟩ (.slice A3 (t + 1) c3)) fun v n cs h => ownsRow_setCell_below h (by show w1.heap.size < w1.heap.size + 1; omega) _
              have hO7 := ownsRow_setCell_below (a := ⟨w1.heap.size, 1, none⟩) hO6 (by show w1.heap.size < w1.heap.size + 1; omega) (.slice A3 (t + 1) c3)
              have hcu7 := (HN.out.2.2.1.belowB hB6 (by omega)).setFar (p := ⟨w1.heap.size, 1, none⟩) hgn (.slice A3 (t + 1) c3)
              have ho7 := (HN.out.2.2.2.1.thenBelow hB6 (by omega)).setNew (p := ⟨w1.heap.size, 1, none⟩) (by show w.heap.size ≤ w1.heap.size; omega) (.slice A3 (t + 1) c3)
              have hX7 : (xss ++ [L']).length = t + 1 ∧ SmallSS (xss ++ [L']) := ⟨by simp [HX.out.1], fun xs hx => by
                rcases List.mem_append.1 hx with hx | hx
                · exact HX.out.2 xs hx
                · rw [List.mem_singleton] at hx
                  subst hx
                  exact ⟨by rw [HN.out.2.2.2.2.1]; exact hK2, HN.out.2.2.2.2.2⟩⟩
              have HE := Lib.hid (And.intro hX7 (And.intro hO7 (And.intro hC7 (And.intro kP7 (And.intro kR7 (And.intro hcu7 ho7))))))
              clear hX7 hO7 hC7 kP7 kR7 hcu7 ho7 hC6 hCn hO6 ho6 hOP hg6 kP6 kR6 kPN kRN
              go_wp2_with fail
              exact ⟨⟨t + 1, _, _, A3, c3, by omega, by go_num, hc3m, hc3, Lib.hid HE.out.1, HE.out.2.1, HE.out.2.2.1, HE.out.2.2.2.1, HE.out.2.2.2.2.1, HE.out.2.2.2.2.2.1, HE.out.2.2.2.2.2.2⟩, by simp [intOf]; omega⟩
    · obtain ⟨hp0, -⟩ := kP.at_ 0 rfl
      obtain ⟨hp1, -⟩ := kP.at_ 1 rfl
      obtain ⟨hr0, hrf0⟩ := kR.at_ 0 rfl
      obtain ⟨hr1, hrf1⟩ := kR.at_ 1 rfl
      have kF := (kR.set_ 0 (.int .i64 (1 + x))).set_ 1 (.slice Ac t cc)
      obtain ⟨hq0, -⟩ := kF.at_ 0 rfl
      obtain ⟨hq1, -⟩ := kF.at_ 1 rfl
      have HE := Lib.hid (And.intro hO (And.intro hC (And.intro hcu ho)))
      clear hO hC hcu ho
      go_wp2_with fail
      exact bodyPost_ret (v := .agg #[.int .i64 (1 + x), .slice Ac t cc]) (by simp [results, Try.results69, go_sem, hq0, hq1]) rfl ⟨_, 1 + x, xss, w1.heap.size + 1, rfl, by omega, by have := HX.out.1; omega, HX.out.2, by omega, ⟨vs, by rw [HX.out.1]; exact ownsRow_setCell_below (ownsRow_setCell_below HE.out.1 (by show w.heap.size < w1.heap.size + 1; omega) _) (by show w.heap.size < w1.heap.size + 1; omega) _, (HE.out.2.1.map fun v n cs h => ownsRow_setCell_below (ownsRow_setCell_below h (by show w.heap.size < w1.heap.size + 1; omega) _) (by show w.heap.size < w1.heap.size + 1; omega) _)⟩, (HE.out.2.2.1.setFar (p := ⟨w.heap.size, 0, none⟩) hg _).setFar (p := ⟨w.heap.size, 1, none⟩) hg _, (HE.out.2.2.2.setNew (p := ⟨w.heap.size, 0, none⟩) (Nat.le_refl _) _).setNew (p := ⟨w.heap.size, 1, none⟩) (Nat.le_refl _) _⟩
end Go.Proofs.Ytgbgjlmkmlhefaa
