/- FnPoked answers true at every code: a poked value is read back, the other cells stay, DiffMem names at most that address. No condition. -/
import Derived.Test.YtiflooopfpcelabDrawPoke
import Derived.Test.YtiflooopfpcelabI3
import Derived.Test.YtiflooopfpcelabLaw
import Derived.Test.YtiflooopfpcelabLBig
namespace Go.Proofs.Ytiflooopfpcelab
set_option maxRecDepth 20000
set_option linter.unusedSimpArgs false
set_option linter.unusedVariables false
open Go.ChangeShapes Go.WideShapes Go.ChangeAt Go.RowKit
set_option linter.unusedVariables false
theorem diff_set {xs : List Int} {k : Nat} {v : Int} (hk : k < xs.length) : ∀ n, diffAt xs (xs.set k v) n = if k < n ∧ xs.getD k 0 ≠ v then [(k : Int)] else [] := by
  intro n
  induction n with
  | zero => simp [diffAt]
  | succ n ih =>
    rw [diffAt_succ, ih]
    by_cases hn : n = k
    · have e : (xs.set k v).getD n 0 = v := by
        rw [hn, List.getD_eq_getElem?_getD, List.getElem?_set_self hk]
        rfl
      rw [e, hn, if_neg (by simp), List.nil_append]
      by_cases hv : xs.getD k 0 = v
      · rw [if_neg (by simpa using hv), if_neg (fun h => h.2 hv)]
      · rw [if_pos (by simpa using hv), if_pos ⟨by omega, hv⟩]
    · have e : (xs.set k v).getD n 0 = xs.getD n 0 := by simp [List.getD_eq_getElem?_getD, List.getElem?_set_ne (Ne.symm hn)]
      rw [e]
      by_cases h1 : k < n
      · simp [h1, show k < n + 1 by omega]
      · simp [h1, show ¬ k < n + 1 by omega]
theorem set_eq_iff {xs : List Int} {k : Nat} {v : Int} (hk : k < xs.length) : decide (xs = xs.set k v) = decide (xs.getD k 0 = v) := by
  rw [Bool.eq_iff_iff, decide_eq_true_iff, decide_eq_true_iff]
  constructor
  · intro h
    rw [h]
    simp [hk]
  · intro h
    apply List.ext_getElem?
    intro i
    by_cases hi : i = k
    · subst hi
      simp [hk] at h ⊢
      exact h
    · rw [List.getElem?_set_ne (Ne.symm hi)]
set_option maxHeartbeats 4000000 in
theorem walk_Poked (A : Option Addr) (n c : Nat) (w : World) (h : Byt w A n) (hnc : n ≤ c) (hc : c ≤ 9223372036854775807) :
    Calls Try.prog 3 #[.slice A n c] w fun e w' => e = .returned (.bool true) ∧ Below w.heap.size w w' := by
  by_cases hn : (1048576 : Int) < n
  · go_enter Try.func3, Try.ntmps3
    go_wp2_with (go_at_call 15; refine (lawbig _ _ _ _ hnc hc).mono ?_; rintro e w' ⟨rfl, rfl⟩)
    go_ret
    exact ⟨rfl, Below.refl _ _⟩
  · go_enter Try.func3, Try.ntmps3
    go_wp2_with (go_at_call 15; refine (lawbig _ _ _ _ hnc hc).mono ?_; rintro e w' ⟨rfl, rfl⟩)
    refine (DrawPoke A n c _ h hnc hc (by omega)).mono ?_
    rintro e w1 ⟨v1, xs, bs1, a, x, rfl, hmv, ho1, hbs1, hb1, ha, hx⟩
    obtain ⟨A1, c1, rfl, -, -⟩ := ho1.slice
    have hl17 := hmv.1
    clear hmv
    go_wp2_with fail
    have hB2 := hb1.alloc hb1.size (.cells #[.slice A1 xs.length c1] 26)
    have k2 := Bk.new w1 #[.slice A1 xs.length c1] 26
    have ho2 := ho1.below ((Below.refl _ _).alloc (Nat.le_refl _) (.cells #[.slice A1 xs.length c1] 26))
    refine (spec_Poke _ xs a x _ ho2.rd (by omega) (WalkArith.wf_i64 (by omega))).mono ?_
    rintro e w3 ⟨v3, bs3, rfl, ho3, hbs3, hb3⟩
    obtain ⟨zs, hzs⟩ : ∃ zs, zs = pokeF xs a x := ⟨_, rfl⟩
    rw [← hzs] at ho3
    have HZS := Lib.hid hzs
    obtain ⟨A3, c3, rfl, -, -⟩ := ho3.slice
    clear hzs
    have hB3 := hB2.trans (hb3.mono hB2.size)
    have k3 := k2.below hb3 k2.lt
    have ho3a := ho2.below hb3
    obtain ⟨hc3, hf3⟩ := k3.at_ 0 (x := .slice A1 xs.length c1) rfl
    have hl3 := k3.lt
    cases hp : pokeOk xs a x
    · go_wp2_with fail
      go_ret
      exact ⟨rfl, hB3.alloc hB3.size _⟩
    · have hp3 : memOk xs = true ∧ inB a 0 (xs.length - 1) = true ∧ valB x = true := by simpa [pokeOk, and_assoc] using hp
      obtain ⟨hm, hin, hv⟩ := hp3
      obtain ⟨q1, q2⟩ := inB_true hin
      obtain ⟨k, rfl⟩ := Int.eq_ofNat_of_zero_le q1
      have hk : k < xs.length := by omega
      obtain ⟨ys, hys⟩ : ∃ ys, ys = xs.set k x := ⟨_, rfl⟩
      have hF : pokeF xs k x = ys := by rw [hys]; simp [pokeF, hp]
      have hms := memOk_set (k := k) hm hv
      rw [← hys] at hms
      have hpk0 : peekF ys k = x := by rw [hys] at hms ⊢; exact peek_same hms hk
      have hpk1 : ∀ j, j < xs.length → j ≠ k → peekF ys j = xs.getD j 0 := fun j h1 h2 => by rw [hys] at hms ⊢; exact peek_other hms h1 h2
      have HPK0 := Lib.hid hpk0
      have HPK1 := Lib.hid hpk1
      have HYS := Lib.hid hys
      clear hpk0 hpk1 hys
      have HF := Lib.hid hF
      have HP := Lib.hid hp
      have HS := Lib.hid hms
      have HM := Lib.hid hm
      clear hF hp hms hm hin hv q1 q2
      go_wp2_with fail
      have hB4 := hB3.alloc hB3.size (.cells #[.slice A3 zs.length c3] 26)
      have k4 := k3.alloc (.cells #[.slice A3 zs.length c3] 26)
      have ho4 := ho3a.below ((Below.refl _ _).alloc (Nat.le_refl _) (.cells #[.slice A3 zs.length c3] 26))
      refine (impl_Poke _ xs k x _ ho4.rd (by omega) (WalkArith.wf_i64 (by omega))).mono ?_
      rintro e w5 ⟨v5, bs5, rfl, ho5, hbs5, hb5⟩
      rw [HF.out] at ho5
      obtain ⟨A5, c5, rfl, -, -⟩ := ho5.slice
      have hB5 := hB4.trans (hb5.mono hB4.size)
      have k5 := k4.below hb5 k4.lt
      have ho5a := ho4.below hb5
      clear hc3 hf3 hl3
      obtain ⟨hc5, hf5⟩ := k5.at_ 0 (x := .slice A1 xs.length c1) rfl
      have hl5 := k5.lt
      rw [HP.out]
      go_wp2_with fail
      have hB6 := hB5.alloc hB5.size (.cells #[.slice A5 ys.length c5] 26)
      have k6 := k5.alloc (.cells #[.slice A5 ys.length c5] 26)
      have n6 := Bk.new w5 #[.slice A5 ys.length c5] 26
      have ho6 := ho5a.below ((Below.refl _ _).alloc (Nat.le_refl _) (.cells #[.slice A5 ys.length c5] 26))
      have on6 := ho5.below ((Below.refl _ _).alloc (Nat.le_refl _) (.cells #[.slice A5 ys.length c5] 26))
      refine (impl_Peek _ ys k _ on6.rd (WalkArith.wf_i64 (by omega))).mono ?_
      rintro e w7 ⟨rfl, hb7⟩
      rw [HPK0.out]
      have hB7 := hB6.trans (hb7.mono hB6.size)
      have k7 := k6.below hb7 k6.lt
      have n7 := n6.below hb7 n6.lt
      have ho7 := ho6.below hb7
      have on7 := on6.below hb7
      clear hc5 hf5 hl5
      obtain ⟨hc7, hf7⟩ := k7.at_ 0 (x := .slice A1 xs.length c1) rfl
      obtain ⟨hd7, hg7⟩ := n7.at_ 0 (x := .slice A5 ys.length c5) rfl
      have hxx : (x != x) = false := by simp
      go_wp2_with fail
      clear hxx
      go_loopw [10] (fun i wr => ∃ j : Nat, j ≤ xs.length ∧ i = .int .i64 j ∧ Below w7.heap.size w7 wr) (fun i _ => xs.length - (intOf i).toNat)
      case atStart => exact ⟨0, Nat.zero_le _, rfl, Below.refl _ _⟩
      case round =>
        obtain ⟨j, hj, rfl, hbr⟩ := hrel
        have kr := k7.below hbr k7.lt
        have nr := n7.below hbr n7.lt
        have hor := ho7.below hbr
        have onr := on7.below hbr
        have hBr := hB7.trans (hbr.mono hB7.size)
        clear hc7 hf7 hd7 hg7
        obtain ⟨hc, hf⟩ := kr.at_ 0 (x := .slice A1 xs.length c1) rfl
        obtain ⟨hd, hg⟩ := nr.at_ 0 (x := .slice A5 ys.length c5) rfl
        by_cases hlt : j < xs.length
        · have hltI : (j : Int) < xs.length := by omega
          by_cases hjk : j = k
          · have hne : ((j : Int) != (k : Int)) = false := by simp [hjk]
            have HJ := Lib.hid hjk
            clear hjk
            go_wp2_with fail
            go_quiet (fail)
            go_wp2_with fail
            exact ⟨⟨j + 1, by omega, by go_num, below_more hbr _⟩, by simp [intOf]; omega⟩
          · have hne : ((j : Int) != (k : Int)) = true := by simp; omega
            have hpk := HPK1.out j hlt hjk
            obtain ⟨y, hy⟩ : ∃ y, y = xs.getD j 0 := ⟨_, rfl⟩
            rw [← hy] at hpk
            obtain ⟨b1, o1, c1', e1, -, hbl, hat, -, -⟩ := hor.open_ (by omega)
            injection e1 with e1 _ e3
            subst e1
            subst e3
            obtain ⟨hyc, hyf⟩ := hat j (.int .i64 y) (by rw [hy]; exact ints_at hlt)
            have HPK := Lib.hid hpk
            have HY := Lib.hid hy
            clear hpk hy hat hjk
            have hyy : (y != y) = false := by simp
            go_wp2_with fail
            have HS9 : Hid (∀ W : World, Below wr.heap.size wr W → Below wr.heap.size wr W ∧ W.cell? ⟨w1.heap.size, 0, none⟩ = some (.slice (some ⟨b1, o1, none⟩) xs.length c1) ∧ W.cell? ⟨w5.heap.size, 0, none⟩ = some (.slice A5 ys.length c5) ∧ W.cell? ⟨b1, o1 + j, none⟩ = some (.int .i64 y)) :=
              Lib.hid fun W hW => ⟨hW, (hW.cell (p := ⟨w1.heap.size, 0, none⟩) kr.lt).trans hc, (hW.cell (p := ⟨w5.heap.size, 0, none⟩) nr.lt).trans hd, (hW.cell (p := ⟨b1, o1 + j, none⟩) hbl).trans hyc⟩
            have HON := Lib.hid onr
            go_region_held3 (fun W => Below wr.heap.size wr W ∧ W.cell? ⟨w1.heap.size, 0, none⟩ = some (.slice (some ⟨b1, o1, none⟩) xs.length c1) ∧ W.cell? ⟨w5.heap.size, 0, none⟩ = some (.slice A5 ys.length c5) ∧ W.cell? ⟨b1, o1 + j, none⟩ = some (.int .i64 y))
              (first | (exact HS9.out _ (Below.refl _ _).drew) | (exact HS9.out _ (by assumption)))
              ((go_at_call 19; have hS := (‹Below wr.heap.size wr _ ∧ _›).1; refine (impl_Peek _ ys j _ (HON.out.below hS).rd (WalkArith.wf_i64 (by omega))).mono ?_; rintro e w9 ⟨rfl, hb9⟩; rw [HPK.out]; have hS9 := hS.trans (hb9.mono hS.size); clear hS))
            have hS9 := (‹Below wr.heap.size wr _ ∧ _›).1
            go_wp2_with fail
            exact ⟨⟨j + 1, by omega, by go_num, hbr.trans (hS9.mono hbr.size)⟩, by simp [intOf]; omega⟩
        · go_wp2_with fail
          refine (impl_DiffMem _ _ xs ys _ hor.rd onr.rd).mono ?_
          rintro e w9 ⟨v9, bs9, rfl, ho9, hbs9, hb9⟩
          have hk9 := kr.below hb9 kr.lt
          have hn9 := nr.below hb9 nr.lt
          have ho9a := hor.below hb9
          have on9 := onr.below hb9
          have hB9 := hBr.trans (hb9.mono hBr.size)
          clear hc hf hd hg
          obtain ⟨hc, hf⟩ := hk9.at_ 0 (x := .slice A1 xs.length c1) rfl
          obtain ⟨hd, hg⟩ := hn9.at_ 0 (x := .slice A5 ys.length c5) rfl
          have hlen : ys.length = xs.length := by rw [HYS.out, List.length_set]
          have hms : memOk ys = true := HS.out
          have hdf : diffF xs ys = if xs.getD k 0 ≠ x then [(k : Int)] else [] := by
            have := diff_set (v := x) hk xs.length
            rw [← HYS.out] at this
            simp only [diffF, HM.out, hms, hlen, decide_true, Bool.and_self, if_true, this]
            simp [hk]
          have hsf : sameF xs ys = decide (xs.getD k 0 = x) := by
            simp only [sameF, HM.out, hms, Bool.true_and]
            rw [HYS.out]
            exact set_eq_iff hk
          obtain ⟨y, hy⟩ : ∃ y, y = xs.getD k 0 := ⟨_, rfl⟩
          rw [← hy] at hdf hsf
          obtain ⟨b1, o1, c1', e1, -, hbl, hat, -, -⟩ := ho9a.open_ (by omega)
          injection e1 with e1 _ e3
          subst e1
          subst e3
          obtain ⟨hyc, hyf⟩ := hat k (.int .i64 y) (by rw [hy]; exact ints_at hk)
          obtain ⟨A9, c9, rfl, -, -⟩ := ho9.slice
          have HSF := Lib.hid hsf
          clear hat hy hlen hms hsf
          by_cases hyx : y = x
          · have hd0 : diffF xs ys = [] := by rw [hdf]; simp [hyx]
            have hs0 : sameF xs ys = true := by rw [HSF.out]; simp [hyx]
            rw [hd0]
            have hyy : (y == x) = true := by simp [hyx]
            have H0 := Lib.hid hs0
            clear hdf hd0 hs0 hyx
            go_wp2_with fail
            refine (impl_SameMem _ _ xs ys _ ho9a.rd on9.rd).mono ?_
            rintro e w10 ⟨rfl, hb10⟩
            rw [H0.out]
            go_wp2_with fail
            go_ret
            exact ⟨rfl, hB9.trans (hb10.mono hB9.size)⟩
          · have hd0 : diffF xs ys = [(k : Int)] := by rw [hdf]; simp [hyx]
            have hs0 : sameF xs ys = false := by rw [HSF.out]; simp [hyx]
            rw [hd0] at ho9 ⊢
            have hyy : (y == x) = false := by simp [hyx]
            have H0 := Lib.hid hs0
            obtain ⟨b9, o9, c9', e9, -, hbl9, hat9, -, -⟩ := ho9.open_ (by simp)
            injection e9 with e91 _ e93
            subst e91
            subst e93
            obtain ⟨hkc, hkf⟩ := hat9 0 (.int .i64 k) (by simp [ints])
            rw [Nat.add_zero] at hkc hkf
            have hkk : ((k : Int) == (k : Int)) = true := by simp
            clear hdf hd0 hs0 hyx hat9
            go_wp2_with fail
            refine (impl_SameMem _ _ xs ys _ ho9a.rd on9.rd).mono ?_
            rintro e w10 ⟨rfl, hb10⟩
            rw [H0.out]
            go_wp2_with fail
            go_ret
            exact ⟨rfl, hB9.trans (hb10.mono hB9.size)⟩
set_option maxRecDepth 100000 in
theorem lift_FnPoked (os : Os) (started : os.Started) (H : Type) (enc : TypeId × Value → H) :
    ReturnsInHanded {} Try.checked os 3 .any (Rows.fnPokedSpec.pre6 enc Try.prog Try.f3 Rows.fnPokedRow.domain false) (Rows.fnPokedSpec.post enc Try.prog Try.f3 false true false false) := by
  refine returnsInHanded_of_change (C := Try.checked) (by kernel_rfl) started (by kernel_rfl) Try.func3
    (ChangeSpec.witness6 (enc := enc) (C := Try.checked) false ⟨#[], #[.slice none 0 0], []⟩ 8 (by kernel_rfl) (by kernel_rfl) (by kernel_rfl) (by kernel_rfl)) ?_
  intro W base args ds gs before hval0 hW hcnd _
  have hval : ∀ (j : Nat) t v, Try.f3.params[j]? = some t → args[j]? = some v → Value.okWide Try.prog W .any base t v := hval0
  have hW' := hW
  obtain ⟨p, q, hA0, hV, rfl, hfz, hnd⟩ := hW
  have hA : DataW.TrodAll enc Try.prog W 0 (fun _ => true) true Try.f3.params.toList args.toList ds p := hA0
  rw [Try.params3] at hA hval
  obtain ⟨v0, vs0, d0, ds0, p0, q0, hargs, rfl, rfl, h0, r0⟩ := trodAll_cons hA
  obtain ⟨rfl, rfl, rfl⟩ := trodAll_nil r0
  obtain rfl : args = #[v0] := by cases args; simp_all
  obtain ⟨rfl, rfl⟩ := trodVars_none hV
  obtain ⟨A, n, c, rfl, hb, hnc, hc⟩ := read_bytes Try.underlying22 Try.underlying5 (by kernel_rfl) (hval 0 _ v0 rfl rfl) h0
  refine (walk_Poked A n c W hb hnc hc).mono fun e W' ⟨he, hb⟩ => ?_
  subst he
  exact ⟨_, rfl, post_law (by kernel_rfl) rfl rfl (by kernel_rfl) Try.underlying4 (of_decide_eq_true (by kernel_rfl)) hW' hb⟩
theorem FnPoked_holds : Rows.FnPokedSaid :=
  OpenClaim.holds_of_wide 3 Try.f3 rfl rfl rfl rfl rfl rfl rfl ⟨rfl, rfl, rfl, rfl, rfl⟩ rfl rfl rfl rfl rfl (by kernel_rfl) Try.func3 (by kernel_rfl)
    (of_decide_eq_true (by kernel_rfl)) (by unfold Func.isWrapper; first | (rw [if_pos (by decide +kernel)]; kernel_rfl) | (rw [if_neg (by decide +kernel)]; exact ⟨rfl, rfl⟩))
    (fun os started H enc _ => lift_FnPoked os started H enc)
#print axioms FnPoked_holds
end Go.Proofs.Ytiflooopfpcelab
