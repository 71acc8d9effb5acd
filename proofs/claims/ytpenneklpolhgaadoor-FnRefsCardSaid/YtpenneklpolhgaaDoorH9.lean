/- Contracts of chapter 8's functions (package impl), fifth part: the copy of a heap, NewHeap, AllocObj. Conditions: the heap's rows can be read; lengths that a law bounds. -/
import Derived.Test.YtpenneklpolhgaaDoorH4
import Derived.Test.YtpenneklpolhgaaDoorH6
import Derived.Test.YtpenneklpolhgaaDoorI2
namespace Go.Proofs.YtpenneklpolhgaaDoor
set_option maxRecDepth 20000
set_option linter.unusedSimpArgs false
set_option linter.unusedVariables false
open Go.ChangeShapes Go.WideShapes Go.ChangeAt Go.RowKit
set_option linter.unusedVariables false
set_option maxHeartbeats 800000 in
theorem cloneB (v : Value) (xs : List Bool) (w : World) (h : Rd w v 1 xs.length (bools xs)) (hsz : xs.length ≤ 16777216) :
    Calls Tryd.prog 62 #[v] w (RetBools xs w) := by
  obtain ⟨A, c, rfl, -, hnc, hc, hr⟩ := id h
  unfold maxLen at hc
  obtain ⟨i, hi, hiz0, hiz1, hiz2⟩ := info_parts infoBool
  rcases A with _ | ad
  · have h0 : xs = [] := by
      by_cases hp : 0 < xs.length
      · obtain ⟨b, o, he, _⟩ := hr hp
        cases he
      · exact List.eq_nil_of_length_eq_zero (by omega)
    subst h0
    have e0 := fun w => Lib.run_eql_slice_nil (P := Tryd.prog) w 23 4 none 0 c 0 0 Tryd.underlying23
    go_enter Tryd.func62, Tryd.ntmps62
    go_wp2_with fail
    go_ret
    exact ⟨_, [], rfl, Own.nil _ _, by simp, Below.refl _ _⟩
  · have HC : Hid (∀ W : World, Below w.heap.size w W → ∀ j u, (bools xs)[j]? = some u → W.cell? (ad.add j) = some u) := by
      intro W hW j u hu
      have hj : j < xs.length := by have := (List.getElem?_eq_some_iff.1 hu).1; simpa [bools] using this
      obtain ⟨A', c', he, -, -, -, hr'⟩ := h.a
      injection he with e1
      subst e1
      obtain ⟨ad', he', hb, hcell⟩ := hr' (by omega)
      injection he' with e2
      subst e2
      exact (hW.cell (p := ad.add j) (by rw [add_block]; exact hb)).trans (hcell j u hu)
    have hO := World.ownsRow_lit (base := w.heap.size) (e := 4) (size := 1) w #[] 0 (Nat.le_refl _) (by simp [maxLen]) rfl
    have hB := (Below.refl w.heap.size w).alloc (Nat.le_refl _) (.cells #[] 4)
    have hone : ∀ u ∈ bools xs, u.oneCell' = true := by
      intro u hu
      obtain ⟨b, -, rfl⟩ := List.mem_map.1 hu
      rfl
    have HO := Lib.hid hone
    clear hr hone
    have e0 := fun w => Lib.run_eql_slice_nil (P := Tryd.prog) w 23 4 (some ad) xs.length c 0 0 Tryd.underlying23
    go_enter Tryd.func62, Tryd.ntmps62
    go_wp2_with (at_builtin; refine wpList_append_own _ rfl _ _ 23 rfl w.heap.size 4 i (.bool false) 1 1 Tryd.underlying23 hi hiz0 hiz1 hiz2 rfl (by decide) _ _ _ rfl hO ad xs.length c (bools xs) rfl (by simp [bools]) (HC.out _ hB) HO.out (by unfold maxLen; omega) (by omega) (by simp) ?_)
    intro v' w1 hown' hgrow _
    have hB' := hB.grown hgrow (by simp) (fun k hk => (hO.lt k hk).1)
    go_wp2_with fail
    go_ret
    obtain ⟨bs, h1, h2⟩ := Own.of_owns hown'
    exact ⟨_, bs, rfl, by simpa using h1, h2, hB'⟩
set_option maxHeartbeats 1600000 in
theorem copyHeap (gv lv : Value) (h : Hp) (w : World) (r : RdHp w gv lv h) (hsz : h.g.length ≤ 16777215 ∧ h.l.length ≤ 16777215) :
    Calls Tryd.prog 39 #[.agg #[gv, lv]] w (RetHp h w) := by
  obtain ⟨A, c, B, d, rfl, rfl, hc1, hd1, hc2, hd2⟩ := r.slices
  obtain ⟨hs1, hs2⟩ := hsz
  have hB := ((Below.refl w.heap.size w).alloc (Nat.le_refl _) (.cells #[.slice A h.g.length c, .slice B h.l.length d] 29)).alloc (by simp) (.cells #[.slice none 0 0, .slice none 0 0] 29)
  have k0 := (Bk.new w #[.slice A h.g.length c, .slice B h.l.length d] 29).alloc (.cells #[.slice none 0 0, .slice none 0 0] 29)
  have k1 := Bk.new (w.alloc (.cells #[.slice A h.g.length c, .slice B h.l.length d] 29)) #[.slice none 0 0, .slice none 0 0] 29
  rw [World.size_alloc] at k1
  obtain ⟨W2, hW2⟩ : ∃ W2, W2 = (w.alloc (.cells #[.slice A h.g.length c, .slice B h.l.length d] 29)).alloc (.cells #[.slice none 0 0, .slice none 0 0] 29) := ⟨_, rfl⟩
  have hz2 : W2.heap.size = w.heap.size + 2 := by rw [hW2]; simp
  rw [← hW2] at hB k0 k1
  have HW2 := Lib.hid hW2
  have HZ2 := Lib.hid hz2
  have HB := Lib.hid hB
  have K0 := Lib.hid k0
  have K1 := Lib.hid k1
  have HR := Lib.hid (r.below hB)
  obtain ⟨x0, -⟩ := k0.at_ 0 (x := .slice A h.g.length c) rfl
  obtain ⟨x1, -⟩ := k0.at_ 1 (x := .slice B h.l.length d) rfl
  obtain ⟨y0, f0⟩ := k1.at_ 0 (x := .slice none 0 0) rfl
  obtain ⟨y1, f1⟩ := k1.at_ 1 (x := .slice none 0 0) rfl
  have l0 := k0.lt
  have l1 := k1.lt
  have HS : Hid (∀ W : World, Below W2.heap.size W2 W → W.cell? ⟨w.heap.size, 0, none⟩ = some (.slice A h.g.length c) ∧ W.cell? ⟨w.heap.size, 1, none⟩ = some (.slice B h.l.length d)) := Lib.hid fun W hW => ⟨((K0.out.below hW l0).at_ 0 rfl).1, ((K0.out.below hW l0).at_ 1 rfl).1⟩
  have HF : Hid (∀ (W : World) (a b : Value), Below W2.heap.size W2 W → ((W.setCell ⟨w.heap.size + 1, 0, none⟩ a).setCell ⟨w.heap.size + 1, 1, none⟩ b).cell? ⟨w.heap.size, 0, none⟩ = some (.slice A h.g.length c) ∧ ((W.setCell ⟨w.heap.size + 1, 0, none⟩ a).setCell ⟨w.heap.size + 1, 1, none⟩ b).cell? ⟨w.heap.size, 1, none⟩ = some (.slice B h.l.length d)) :=
    Lib.hid fun W a b hW => by
      have q := ((K0.out.below hW l0).far (p := ⟨w.heap.size + 1, 0, none⟩) (by simp) a).far (p := ⟨w.heap.size + 1, 1, none⟩) (by simp) b
      exact ⟨(q.at_ 0 rfl).1, (q.at_ 1 rfl).1⟩
  clear hW2 hz2 hB k0 k1 r
  go_enter Tryd.func39, Tryd.ntmps39
  go_wp2_with fail
  rw [← HW2.out]
  go_region_held3 (fun W => W.cell? ⟨w.heap.size, 0, none⟩ = some (.slice A h.g.length c) ∧ W.cell? ⟨w.heap.size, 1, none⟩ = some (.slice B h.l.length d)) (first | (exact HS.out _ (Below.refl _ _).drew) | (exact HS.out _ (by assumption)) | (exact HF.out _ _ _ (by assumption)))
    (first
      | (go_at_call 61; refine (clone _ h.g _ ((HR.out.below (Below.refl _ _).drew).g) (by omega)).mono ?_; rintro e w1 ⟨v1, bs1, rfl, ho1, hbs1, hb1⟩; obtain ⟨A1, c1, rfl, -, -⟩ := ho1.slice; have t1 : Below W2.heap.size W2 w1 := (Below.refl _ W2).drew.trans hb1)
      | (go_at_call 62; refine (cloneB _ h.l _ ((HR.out.below t1).l) (by omega)).mono ?_; rintro e w2 ⟨v2, bs2, rfl, ho2, hbs2, hb2⟩; obtain ⟨A2, c2, rfl, -, -⟩ := ho2.slice; have t2 : Below W2.heap.size W2 w2 := t1.trans (hb2.mono t1.size); have q2 := K1.out.below t2 K1.out.lt; obtain ⟨y0', f0'⟩ := q2.at_ 0 (x := .slice none 0 0) rfl; obtain ⟨y1', f1'⟩ := q2.at_ 1 (x := .slice none 0 0) rfl))
  have hz := HZ2.out
  have hi1 := ho1.lt
  have hi2 := ho2.lt
  have s1 := t1.size
  have s2 := t2.size
  have hs1' : W2.heap.size = W2.drew.heap.size := rfl
  have qF := (q2.set_ 0 (.slice A1 h.g.length c1)).set_ 1 (.slice A2 h.l.length c2)
  obtain ⟨z0, -⟩ := qF.at_ 0 (x := .slice A1 h.g.length c1) rfl
  obtain ⟨z1, -⟩ := qF.at_ 1 (x := .slice A2 h.l.length c2) rfl
  have hO1 := ho1.below hb2
  have hBt := HB.out.trans (t2.mono HB.out.size)
  clear y0 y1 f0 f1 y0' y1' f0' f1' q2 qF
  go_wp2_with fail
  refine bodyPost_ret (v := .agg #[.slice A1 h.g.length c1, .slice A2 h.l.length c2]) (by simp [results, Tryd.results39, go_sem, z0, z1]) rfl ⟨_, _, bs1 ++ bs2, rfl, OwnHp.mk ?_ ?_ (fun b hb hm => by have := hi1 b hb; have := hbs2 b hm; omega), ?_, ?_⟩
  · exact (hO1.far fun k hk => by have := hbs1 k hk; omega).far fun k hk => by have := hbs1 k hk; omega
  · exact (ho2.far fun k hk => by have := hbs2 k hk; omega).far fun k hk => by have := hbs2 k hk; omega
  · intro b hb
    rcases List.mem_append.1 hb with hb | hb
    · have := hbs1 b hb
      omega
    · have := hbs2 b hb
      omega
  · exact (hBt.setCell (by show w.heap.size ≤ w.heap.size + 1; omega) _).setCell (by show w.heap.size ≤ w.heap.size + 1; omega) _
set_option maxHeartbeats 1600000 in
theorem impl_NewHeap (n : Int) (w : World) (hw : (Lit.int .i64 n).wf = true) :
    Calls Tryd.prog 26 #[.int .i64 n] w (RetHpB (newHp n) (inB n 1 24) w) := by
  have hn' := bounds_i64 hw
  obtain ⟨i, hi, hiz0, hiz1, hiz2⟩ := info_parts infoInt
  obtain ⟨ib, hib, hb0, hb1, hb2⟩ := info_parts infoBool
  cases hin : inB n 1 24
  · have HN : Hid (newHp n = ⟨[], []⟩) := Lib.hid (by simp [newHp, hin])
    rcases inB_false hin with h1 | h1
    · clear hin
      go_enter Tryd.func26, Tryd.ntmps26
      go_wp2_with fail
      exact bodyPost_ret (v := .tuple #[.agg #[.slice none 0 0, .slice none 0 0], .bool false]) (by simp [results, Tryd.results26, go_sem]) rfl ⟨_, _, [] ++ [], rfl, by rw [HN.out]; exact OwnHp.mk (Own.nil _ _) (Own.nil _ _) (by simp), by simp, (Below.refl _ _).alloc (Nat.le_refl _) _⟩
    · have h2 : ¬ n < 1 := by omega
      clear hin
      go_enter Tryd.func26, Tryd.ntmps26
      go_wp2_with fail
      exact bodyPost_ret (v := .tuple #[.agg #[.slice none 0 0, .slice none 0 0], .bool false]) (by simp [results, Tryd.results26, go_sem]) rfl ⟨_, _, [] ++ [], rfl, by rw [HN.out]; exact OwnHp.mk (Own.nil _ _) (Own.nil _ _) (by simp), by simp, (Below.refl _ _).alloc (Nat.le_refl _) _⟩
  · obtain ⟨h1, h2⟩ := inB_true hin
    obtain ⟨k, rfl⟩ := Int.eq_ofNat_of_zero_le (show 0 ≤ n by omega)
    have HN : Hid (newHp (k : Int) = ⟨List.replicate k 0, List.replicate k false⟩) := Lib.hid (by simp [newHp, hin])
    have KN : Hid (Bk (w.alloc (.cells #[.slice none 0 0, .slice none 0 0] 29)).drew w.heap.size #[.slice none 0 0, .slice none 0 0] 29) := Lib.hid (Bk.new w #[.slice none 0 0, .slice none 0 0] 29)
    clear hin
    go_enter Tryd.func26, Tryd.ntmps26
    go_wp2_with fail
    have HSZ : Hid (w.heap.size + 1 ≤ ((w.alloc (.cells #[.slice none 0 0, .slice none 0 0] 29)).drew).heap.size) := Lib.hid (by show w.heap.size + 1 ≤ (w.alloc _).heap.size; simp)
    have HB1 : Hid (Below w.heap.size w (w.alloc (.cells #[.slice none 0 0, .slice none 0 0] 29)).drew) := Lib.hid ((Below.refl _ _).alloc (Nat.le_refl _) _).drew
    go_region_with (first
      | (refine upon_make _ 22 (w.heap.size + 1) 3 i (.int .i64 0) 1 Tryd.underlying22 hi hiz0 hiz1 k (by rw [hiz2]; omega) (by unfold maxLen; omega) (by exact HSZ.out) ?_; intro w6 hO6 hg6; have t6 := (Below.refl (w.heap.size + 1) _).grown hg6 (by exact HSZ.out) (by simp); have z6 : w.heap.size + 1 ≤ w6.heap.size := Nat.le_trans HSZ.out t6.size)
      | (refine upon_make _ 22 (w.heap.size + 1) 3 i (.int .i64 0) 1 Tryd.underlying22 hi hiz0 hiz1 k (by rw [hiz2]; omega) (by unfold maxLen; omega) (by exact z7) ?_; intro w6 hO6 hg6; have t6 := (Below.refl (w.heap.size + 1) _).grown hg6 z7 (by simp); have qq := KN.out.below (t7.trans t6) (Nat.lt_succ_self _); obtain ⟨y0, f0⟩ := qq.at_ 0 (x := .slice none 0 0) rfl; obtain ⟨y1, f1⟩ := qq.at_ 1 (x := .slice none 0 0) rfl)
      | (refine upon_make _ 23 (w.heap.size + 1) 4 ib (.bool false) 1 Tryd.underlying23 hib hb0 hb1 k (by rw [hb2]; omega) (by unfold maxLen; omega) (by exact HSZ.out) ?_; intro w7 hO7 hg7; have t7 := (Below.refl (w.heap.size + 1) _).grown hg7 (by exact HSZ.out) (by simp); have z7 : w.heap.size + 1 ≤ w7.heap.size := Nat.le_trans HSZ.out t7.size)
      | (refine upon_make _ 23 (w.heap.size + 1) 4 ib (.bool false) 1 Tryd.underlying23 hib hb0 hb1 k (by rw [hb2]; omega) (by unfold maxLen; omega) (by exact z6) ?_; intro w7 hO7 hg7; have t7 := (Below.refl (w.heap.size + 1) _).grown hg7 z6 (by simp); have qq := KN.out.below (t6.trans t7) (Nat.lt_succ_self _); obtain ⟨y0, f0⟩ := qq.at_ 0 (x := .slice none 0 0) rfl; obtain ⟨y1, f1⟩ := qq.at_ 1 (x := .slice none 0 0) rfl))
    · simp only [Value.cells, toList_madeCells_one, Nat.mul_one] at hO6 hO7
      obtain ⟨b6, ho6, hi6⟩ := Own.of_owns hO6
      obtain ⟨b7, ho7, hi7⟩ := Own.of_owns hO7
      have tt : Below w6.heap.size w6 w7 := (Below.refl _ _).grown hg7 (Nat.le_refl _) (by simp)
      have ho6' := ho6.below tt
      have hB7 := HB1.out.trans ((t6.trans t7).mono (Nat.le_succ _))
      have qF := (qq.set_ 0 (.slice (some ⟨w.heap.size + 1, 0, none⟩) k k)).set_ 1 (.slice (some ⟨w6.heap.size, 0, none⟩) k k)
      obtain ⟨z0, -⟩ := qF.at_ 0 (x := .slice (some ⟨w.heap.size + 1, 0, none⟩) k k) rfl
      obtain ⟨z1, -⟩ := qF.at_ 1 (x := .slice (some ⟨w6.heap.size, 0, none⟩) k k) rfl
      have hlt9 : w.heap.size + 1 < w6.heap.size := own_glt (g := w.heap.size + 1) (by simpa using ho6) (show 0 < k by omega)
      have HE := Lib.hid (newHp_own (g0 := w.heap.size) (gx := w.heap.size + 1) (by simpa using ho6') (by simpa using ho7) (by omega) (Nat.le_refl _) z6 (.slice (some ⟨w.heap.size + 1, 0, none⟩) k k) (.slice (some ⟨w6.heap.size, 0, none⟩) k k))
      clear qq y0 f0 y1 f1 qF tt ho6 ho7 ho6' hO6 hO7 hg6 hg7
      go_wp2_with fail
      exact bodyPost_ret (v := .tuple #[.agg #[.slice (some ⟨w.heap.size + 1, 0, none⟩) k k, .slice (some ⟨w6.heap.size, 0, none⟩) k k], .bool true]) (by simp [results, Tryd.results26, go_sem, z0, z1]) rfl ⟨_, _, _, rfl, by rw [HN.out]; exact HE.out.1, HE.out.2, (hB7.setCell (Nat.le_refl _) _).setCell (Nat.le_refl _) _⟩
    · simp only [Value.cells, toList_madeCells_one, Nat.mul_one] at hO6 hO7
      obtain ⟨b6, ho6, hi6⟩ := Own.of_owns hO6
      obtain ⟨b7, ho7, hi7⟩ := Own.of_owns hO7
      have tt : Below w7.heap.size w7 w6 := (Below.refl _ _).grown hg6 (Nat.le_refl _) (by simp)
      have ho7' := ho7.below tt
      have hB7 := HB1.out.trans ((t7.trans t6).mono (Nat.le_succ _))
      have qF := (qq.set_ 0 (.slice (some ⟨w7.heap.size, 0, none⟩) k k)).set_ 1 (.slice (some ⟨w.heap.size + 1, 0, none⟩) k k)
      obtain ⟨z0, -⟩ := qF.at_ 0 (x := .slice (some ⟨w7.heap.size, 0, none⟩) k k) rfl
      obtain ⟨z1, -⟩ := qF.at_ 1 (x := .slice (some ⟨w.heap.size + 1, 0, none⟩) k k) rfl
      have hlt9 : w.heap.size + 1 < w7.heap.size := own_glt (g := w.heap.size + 1) (by simpa using ho7) (show 0 < k by omega)
      have HE := Lib.hid (newHp_own (g0 := w.heap.size) (gx := w7.heap.size) (gy := w.heap.size + 1) (by simpa using ho6) (by simpa using ho7') (by omega) z7 (Nat.le_refl _) (.slice (some ⟨w7.heap.size, 0, none⟩) k k) (.slice (some ⟨w.heap.size + 1, 0, none⟩) k k))
      clear qq y0 f0 y1 f1 qF tt ho6 ho7 ho7' hO6 hO7 hg6 hg7
      go_wp2_with fail
      exact bodyPost_ret (v := .tuple #[.agg #[.slice (some ⟨w7.heap.size, 0, none⟩) k k, .slice (some ⟨w.heap.size + 1, 0, none⟩) k k], .bool true]) (by simp [results, Tryd.results26, go_sem, z0, z1]) rfl ⟨_, _, _, rfl, by rw [HN.out]; exact HE.out.1, HE.out.2, (hB7.setCell (Nat.le_refl _) _).setCell (Nat.le_refl _) _⟩
def ixF (l : List Bool) : Int := if fre l = l.length then -1 else fre l
theorem ixF_no {l : List Bool} (h : fre l = l.length) : ixF l = -1 := by simp [ixF, h]
theorem ixF_at {l : List Bool} {k : Nat} (h : fre l = k) (hl : k < l.length) : ixF l = k := by
  unfold ixF
  rw [if_neg (by omega), h]
set_option maxHeartbeats 800000 in
theorem indexB (v : Value) (xs : List Bool) (w : World) (h : Rd w v 1 xs.length (bools xs)) :
    Calls Tryd.prog 55 #[v, .bool false] w fun e w' => e = .returned (.int .i64 (ixF xs)) ∧ w = w' := by
  obtain ⟨A, c, rfl, -, hnc, hc, hr⟩ := id h
  unfold maxLen at hc
  go_enter Tryd.func55, Tryd.ntmps55
  go_wp2_with fail
  go_loop [8] (fun i => ∃ k : Nat, k ≤ xs.length ∧ i = .int .i64 k ∧ Hid (∀ j, j < k → xs[j]? = some true)) (fun i => xs.length - (intOf i).toNat)
  case atStart => exact ⟨0, Nat.zero_le _, rfl, Lib.hid fun j hj => absurd hj (Nat.not_lt_zero _)⟩
  case round =>
    obtain ⟨k, hk, rfl, HT⟩ := hrel
    by_cases hlt : k < xs.length
    · obtain ⟨b, o, rfl, hb, hcell⟩ := hr (by omega)
      obtain ⟨y, hyk, hy⟩ := bool_at hcell hlt
      clear hcell hr
      cases y
      · have HF := Lib.hid (ixF_at (fre_at HT.out hyk.out) hlt)
        go_wp2_with fail
        go_ret
        exact ⟨ret_int HF.out.symm, rfl⟩
      · have HT2 : Hid (∀ j, j < k + 1 → xs[j]? = some true) := Lib.hid fun j hj => by
          rcases Nat.lt_succ_iff_lt_or_eq.1 hj with hj | rfl
          · exact HT.out j hj
          · exact hyk.out
        go_wp2_with fail
        exact ⟨⟨k + 1, by omega, by go_num, HT2⟩, by simp [intOf]; omega⟩
    · have HF := Lib.hid (ixF_no (fre_all (l := xs) fun j hj => HT.out j (by omega)))
      go_wp2_with fail
      go_ret
      exact ⟨ret_int HF.out.symm, rfl⟩
end Go.Proofs.YtpenneklpolhgaaDoor
