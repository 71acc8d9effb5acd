/- Contract of impl's (Bench).everyObjectOnce: a map counts how often each object stands in the three rows. Conditions: the bench's rows can be read and hold numbers of 64 bits; lengths that a law bounds. -/
import Derived.Test.YtkpgjeeofghldaaN4
namespace Go.Proofs.Ytkpgjeeofghldaa
set_option maxRecDepth 20000
set_option linter.unusedSimpArgs false
set_option linter.unusedVariables false
open Go.ChangeShapes Go.WideShapes Go.ChangeAt Go.RowKit Go.Maps
set_option linter.unusedVariables false
def EoOk (B : Bn) : Prop := ((allBn B).length : Int) = B.n - 1 ∧ (allBn B).Nodup ∧ ∀ x ∈ allBn B, 1 ≤ x ∧ x < B.n
instance (B : Bn) : Decidable (EoOk B) := by unfold EoOk; infer_instance
def eoOk (B : Bn) : Bool := decide (EoOk B)
/-- the rows' numbers have 64 bits -/
def BnR (B : Bn) : Prop := ∀ x ∈ allBn B, (Lit.int .i64 x).wf = true
theorem below_grown {w w' : World} (h : Below w.heap.size w w') : w.grownBy w' none := ⟨h.os, h.tape, h.output, h.size, fun i hi _ => h.block i hi⟩
theorem zeroInt (w : World) : (zeroValue 3).run Try.prog w = .ok (.int .i64 0) w := by kernel_rfl
theorem nodup_count_le {l : List Int} (h : ∀ x ∈ l, l.count x ≤ 1) : l.Nodup := by
  induction l with
  | nil => exact List.nodup_nil
  | cons a l ih =>
    refine List.nodup_cons.2 ⟨fun hm => ?_, ih fun x hx => ?_⟩
    · have := h a (by simp)
      rw [List.count_cons_self] at this
      have := List.count_pos_iff.2 hm
      omega
    · have := h x (by simp [hx])
      have h2 := List.count_le_count_cons (a := x) (b := a) (l := l)
      omega
theorem count_le_nodup {l : List Int} (h : l.Nodup) (x : Int) : l.count x ≤ 1 := List.nodup_iff_count.1 h x
/-- what the loop over the map knows of the keys that have come -/
def Seen (B : Bn) (left : Lit → Bool) : Prop := ∀ x ∈ allBn B, left (kI x) = false → (1 ≤ x ∧ x < B.n) ∧ (allBn B).count x ≤ 1
theorem cell_row3 (w : World) (vs : List Value) (t : TypeId) (hm : vs.length ≤ 1000) : Rd (w.alloc (.cells vs.toArray t)) (.slice (some ⟨w.heap.size, 0, none⟩) vs.length vs.length) 1 vs.length vs := by
  refine ⟨_, _, rfl, by simp, Nat.le_refl _, by unfold maxLen; omega, fun _ => ⟨_, _, rfl, by simp, fun j u hu => ?_⟩⟩
  rw [Nat.zero_add, World.cell?_alloc_new]
  simpa using hu
theorem CntM.at_h {D : DU} {l : List Int} (h : CntM D l) {x c : Int} {N : Nat} (hc : D.atKey (kI x) (dI 0) = dI c) (hl : l.count x ≤ N) : Hid (c = l.count x) ∧ 0 ≤ c ∧ c ≤ N := by
  have := h.at_ hc
  exact ⟨Lib.hid this, by omega, by omega⟩
set_option maxHeartbeats 3200000 in
theorem impl_everyObjectOnce (a b c d : Value) (B : Bn) (w : World) (r : RdBn w a b c d B) (hn : 1 ≤ B.n ∧ B.n ≤ 61) (hw : BnR B) (hsz : szBn B ≤ 16777216) :
    Calls Try.prog 20 #[.agg #[a, b, c, d, .int .i64 B.n]] w fun e w' => e = .returned (.bool (eoOk B)) ∧ Below w.heap.size w w' := by
  obtain ⟨A1, c1, A2, c2, A3, c3, A4, c4, ⟨rfl, rfl, rfl, rfl⟩, ⟨g1, g2, g3, g4⟩, ⟨k1, k2, k3, k4⟩⟩ := r.slices
  have hlen : (allBn B).length ≤ 16777216 := by unfold szBn at hsz; unfold allBn; simp only [List.length_append]; omega
  obtain ⟨xs, hxs⟩ : ∃ xs, xs = allBn B := ⟨_, rfl⟩
  have HXS := Lib.hid hxs
  obtain ⟨W3, hW3⟩ : ∃ W3, W3 = ((w.alloc (.cells #[.slice A1 B.l.length c1, .slice A2 B.h.length c2, .slice A3 B.w.length c3, .slice A4 B.f.length c4, .int .i64 B.n] 30)).alloc (.map #[] 0)).alloc (.cells #[.slice A1 B.l.length c1, .slice A3 B.w.length c3, .slice A4 B.f.length c4] 22) := ⟨_, rfl⟩
  have hB0 := (Below.refl w.heap.size w).alloc (Nat.le_refl _) (.cells #[.slice A1 B.l.length c1, .slice A2 B.h.length c2, .slice A3 B.w.length c3, .slice A4 B.f.length c4, .int .i64 B.n] 30)
  have hB1 := (hB0.alloc (by simp) (.map #[] 0)).alloc (by simp; omega) (.cells #[.slice A1 B.l.length c1, .slice A3 B.w.length c3, .slice A4 B.f.length c4] 22)
  have k0 := ((Bk.new w #[.slice A1 B.l.length c1, .slice A2 B.h.length c2, .slice A3 B.w.length c3, .slice A4 B.f.length c4, .int .i64 B.n] 30).alloc (.map #[] 0)).alloc (.cells #[.slice A1 B.l.length c1, .slice A3 B.w.length c3, .slice A4 B.f.length c4] 22)
  have hM := (World.ownsMap_made (H := Unit) (w.alloc (.cells #[.slice A1 B.l.length c1, .slice A2 B.h.length c2, .slice A3 B.w.length c3, .slice A4 B.f.length c4, .int .i64 B.n] 30)) Try.prog 3 (plainElem Try.prog 3)).alloc (.cells #[.slice A1 B.l.length c1, .slice A3 B.w.length c3, .slice A4 B.f.length c4] 22)
  rw [World.size_alloc] at hM
  have hR3 := cell_row3 ((w.alloc (.cells #[.slice A1 B.l.length c1, .slice A2 B.h.length c2, .slice A3 B.w.length c3, .slice A4 B.f.length c4, .int .i64 B.n] 30)).alloc (.map #[] 0)) [.slice A1 B.l.length c1, .slice A3 B.w.length c3, .slice A4 B.f.length c4] 22 (by simp)
  simp only [World.size_alloc, List.length_cons, List.length_nil, Nat.zero_add] at hR3
  rw [show (#[.slice A1 B.l.length c1, .slice A3 B.w.length c3, .slice A4 B.f.length c4] : Array Value) = [.slice A1 B.l.length c1, .slice A3 B.w.length c3, .slice A4 B.f.length c4].toArray from rfl] at hW3 hB1 k0 hM
  rw [← hW3] at hB1 k0 hM hR3
  have r3 := r.below hB1
  have hCC := concat_ints (.slice (some ⟨w.heap.size + 1 + 1, 0, none⟩) 3 3) [.slice A1 B.l.length c1, .slice A3 B.w.length c3, .slice A4 B.f.length c4] [B.l, B.w, B.f] W3 rfl hR3 (fun k v xs hv hx => by
    match k, hv, hx with
    | 0, hv, hx => simp at hv hx; subst hv hx; exact r3.l
    | 1, hv, hx => simp at hv hx; subst hv hx; exact r3.q
    | 2, hv, hx => simp at hv hx; subst hv hx; exact r3.f
    | n + 3, hv, hx => simp at hv) (by simpa [allBn] using hlen) (by simp)
  rw [show [B.l, B.w, B.f].flatten = xs by rw [hxs]; simp [allBn]] at hCC
  have HCC := Lib.hid hCC
  have HW3 := Lib.hid hW3
  have hmm := @run_makeMap Try.prog
  rw [← hxs] at hlen
  have hkw : ∀ x ∈ xs, (Lit.int .i64 x).wf = true := by rw [hxs]; exact hw
  have HKW := Lib.hid hkw
  clear hCC hW3 hB0 hR3 r r3 hsz hw hxs hkw
  go_enter Try.func20, Try.ntmps20
  go_wp2_with fail
  rw [← HW3.out]
  refine HCC.out.mono ?_
  rintro e w1 ⟨v1, bs1, rfl, ho1, lo1, hb1⟩
  obtain ⟨E1, e1, rfl, hq1, hq2⟩ := ho1.slice
  have hM1 := hM.below hb1 hM.lt
  have kk1 := k0.below hb1 k0.lt
  have hB2 := hB1.trans (hb1.mono hB1.size)
  have hgl := hM.lt
  clear hM k0 hB1 hmm HCC
  go_wp2_with fail
  go_loopw [18] (fun i wr => ∃ (k : Nat) (D : DU), k ≤ xs.length ∧ i = .int .i64 k ∧ wr.ownsMap Try.prog 3 (plainElem Try.prog 3) (w.heap.size + 1) k D ∧ Hid (CntM D (xs.take k)) ∧ (Below w.heap.size w wr ∧ Bk wr w.heap.size #[.slice A1 B.l.length c1, .slice A2 B.h.length c2, .slice A3 B.w.length c3, .slice A4 B.f.length c4, .int .i64 B.n] 30) ∧ Own wr (.slice E1 xs.length e1) 1 xs.length (ints xs) bs1) (fun i _ => xs.length - (intOf i).toNat)
  case atStart => exact ⟨0, .map [], Nat.zero_le _, rfl, hM1, Lib.hid CntM.nil, ⟨hB2, kk1⟩, ho1⟩
  case round =>
    obtain ⟨k, D, hk, rfl, hM', HC, ⟨hB, kb⟩, hO⟩ := hrel
    clear hM1 kk1 hB2 ho1
    by_cases hlt : k < xs.length
    · obtain ⟨b, o, c', he, rfl, hb, hat, -, -⟩ := hO.open_ (by omega)
      injection he with e1 _ e2
      subst e1 e2
      obtain ⟨x, hxk, hx⟩ := int_at hat.read hlt
      have hwx := HKW.out x (List.mem_of_getElem? hxk.out)
      have hne : b ≠ w.heap.size + 1 := by have := lo1 b (by simp); omega
      have hcl : (xs.take k).count x ≤ 16777216 := by
        have h1 := List.count_le_length (a := x) (l := xs.take k)
        rw [List.length_take] at h1
        omega
      clear hat
      go_wp2_with (first
        | (at_lookup; refine wpList_lookup_own_int _ rfl _ _ 50 rfl 3 3 .i64 intK Try.underlying50 Try.underlying3 (zeroInt _) (w.heap.size + 1) k D rfl hM' _ (kI x) rfl (keyOf_int_mk Try.underlying3 hwx) ?_; intro cv hcv hwc; obtain ⟨HCE, hcb⟩ := HC.out.at_h hcv hcl)
        | (at_mapUpdate; refine wpList_mapUpdate_own _ rfl _ _ _ 50 rfl 3 3 intK Try.underlying50 _ (w.heap.size + 1) k D rfl hM' (by unfold maxLen; omega) _ _ (kI x) rfl rfl (keyOf_int_mk Try.underlying3 hwx) (dI (cv + 1)) [] (plainElem_int Try.underlying3 (WalkArith.wf_i64 (by omega))) ?_; intro w2 hown2 hgr2))
      have hBn := hB.grown hgr2 hB.size (by intro j hj; injection hj with hj; omega)
      have kbn := kb.grown hgr2 (by intro j hj; injection hj with hj; omega)
      have hOn := hO.of_blocks hgr2.size fun y hy => hgr2.block y (hO.lt y hy) (by intro e; injection e with e; have := lo1 y hy; omega)
      have HN : Hid (CntM (D.put (kI x) (dI (cv + 1))) (xs.take (k + 1))) := Lib.hid (by
        rw [HCE.out, List.take_add_one, hxk.out]
        exact HC.out.add x)
      go_wp2_with fail
      exact ⟨⟨k + 1, _, by omega, by go_num, hown2, HN, ⟨hBn, kbn⟩, hOn⟩, by simp [intOf]; omega⟩
    · obtain rfl : k = xs.length := by omega
      have hcm := HC.out
      rw [List.take_length] at hcm
      have HCM := Lib.hid hcm
      clear hlt HC hcm hO
      have hgr : w.heap.size + 1 < wr.heap.size := hM'.lt
      go_wp2_with (at_range; refine wpList_range_own _ rfl _ 50 rfl 3 3 intK Try.underlying50 _ (w.heap.size + 1) xs.length D rfl hM' ?_; intro w0 hrg0 hg0 hs0)
      go_frame
      obtain ⟨gi, hgi⟩ : ∃ gi, gi = wr.heap.size := ⟨_, rfl⟩
      rw [← hgi] at hrg0 hgr ⊢
      clear hgi
      have hB0 := hB.grown hg0 hB.size (by simp)
      have kb0 := kb.grown hg0 (by simp)
      go_loopw [6] (fun _ wx => ∃ (left : Lit → Bool) (cnt : Nat), wx.ranges Try.prog 3 (plainElem Try.prog 3) (w.heap.size + 1) gi xs.length D left cnt ∧ Hid (Seen B left ∧ ∀ x, left (kI x) = true → x ∈ allBn B) ∧ Below w.heap.size w wx ∧ Bk wx w.heap.size #[.slice A1 B.l.length c1, .slice A2 B.h.length c2, .slice A3 B.w.length c3, .slice A4 B.f.length c4, .int .i64 B.n] 30) (fun _ wx => wx.rangeLeft (w.heap.size + 1) gi)
      case atStart =>
        refine ⟨_, _, hrg0, Lib.hid ⟨fun x hx hf => ?_, fun x hx => ?_⟩, hB0, kb0⟩
        · rw [HCM.out.has x, HXS.out, decide_eq_true hx] at hf
          cases hf
        · rw [HCM.out.has x, HXS.out] at hx
          exact of_decide_eq_true hx
      case round =>
        obtain ⟨left, cnt, hrg, HSN, hBx, kbx⟩ := hrel
        clear hrg0 hg0 hs0 hB0 kb0 hM' hB kb
        have hne9 : gi ≠ w.heap.size := by omega
        go_wp2_with (at_next; refine wpList_next_ranges_ii _ rfl _ rfl 3 3 .i64 .i64 intK Try.underlying3 Try.underlying3 (w.heap.size + 1) gi xs.length _ _ _ rfl hrg ?_ ?_)
        · intro _ hl0
          have hnd : xs.Nodup := nodup_count_le (fun x hx => by
            rw [HXS.out] at hx ⊢
            exact (HSN.out.1 x hx (hl0 _)).2)
          have hsz := HCM.out.size hnd
          have hln : Maps.size D ≤ 16777216 := by omega
          have HE : Hid (((Maps.size D : Int) == B.n - 1) = eoOk B) := Lib.hid (by
            rw [Bool.eq_iff_iff, beq_iff_eq]
            unfold eoOk
            rw [decide_eq_true_eq, hsz, HXS.out]
            constructor
            · intro h
              exact ⟨h, by rw [← HXS.out]; exact hnd, fun x hx => (HSN.out.1 x hx (hl0 _)).1⟩
            · intro h
              exact h.1)
          obtain ⟨t4, -⟩ := kbx.at_ 4 (x := .int .i64 B.n) rfl
          have hown9 := hrg.owns
          clear hl0 hnd hsz hrg
          go_wp2_with (at_len; refine wpList_len_own _ rfl _ 50 rfl 3 3 Try.underlying50 _ (w.heap.size + 1) xs.length D rfl hown9 ?_)
          go_ret
          exact ⟨ret_bool HE.out, hBx⟩
        · intro x c w1 cnt1 hwx hwc hlx hat hrg1 hlt1 hg1 hs1 hen
          have hcc := HCM.out.at_ (x := x) (c := c) (hat _)
          have hxm := HSN.out.2 x hlx
          have hBx1 := hBx.grown hg1 hBx.size (by intro j hj; injection hj with hj; omega)
          have kbx1 := kbx.grown hg1 (by intro j hj; injection hj with hj; omega)
          obtain ⟨t0, -⟩ := kbx1.at_ 0 (x := .slice A1 B.l.length c1) rfl
          obtain ⟨t1, -⟩ := kbx1.at_ 1 (x := .slice A2 B.h.length c2) rfl
          obtain ⟨t2, -⟩ := kbx1.at_ 2 (x := .slice A3 B.w.length c3) rfl
          obtain ⟨t3, -⟩ := kbx1.at_ 3 (x := .slice A4 B.f.length c4) rfl
          obtain ⟨t4, -⟩ := kbx1.at_ 4 (x := .int .i64 B.n) rfl
          have hcr := impl_created A1 A2 A3 A4 B.l.length B.h.length B.w.length B.f.length c1 c2 c3 c4 B.n x w1
          obtain ⟨v2, hv2⟩ : ∃ v, crB B.n x = v := ⟨_, rfl⟩
          rw [hv2] at hcr
          have HCR := Lib.hid hcr
          have HG1 : Hid (v2 = true → 1 ≤ x ∧ x < B.n) := Lib.hid (fun h => by
            rw [h] at hv2
            simpa [crB] using hv2)
          have HG2 : Hid (v2 = false → eoOk B = false) := Lib.hid (fun h => decide_eq_false (fun ho => by
            rw [h] at hv2
            have := ho.2.2 x hxm
            simp [crB] at hv2
            omega))
          have HG3 : Hid (1 < c → eoOk B = false) := Lib.hid (fun h => decide_eq_false (fun ho => by
            have := count_le_nodup ho.2.1 x
            rw [← HXS.out] at this
            omega))
          have HG4 : Hid (c ≤ 1 → (allBn B).count x ≤ 1) := Lib.hid (fun h => by rw [← HXS.out]; omega)
          have HEN := Lib.hid hat
          clear hcr hv2 hcc hat hxm hBx kbx
          cases v2
          · have HO := Lib.hid (HG2.out rfl)
            go_wp2_with (go_at_call 25; refine HCR.out.mono ?_; rintro e w2 ⟨rfl, hb2⟩)
            go_ret
            exact ⟨ret_bool HO.out.symm, hBx1.trans (hb2.mono hBx1.size)⟩
          · by_cases hc1 : 1 < c
            · have HO := Lib.hid (HG3.out hc1)
              go_wp2_with (go_at_call 25; refine HCR.out.mono ?_; rintro e w2 ⟨rfl, hb2⟩)
              go_ret
              exact ⟨ret_bool HO.out.symm, hBx1.trans (hb2.mono hBx1.size)⟩
            · have HN : Hid (Seen B (fun z => left z && !z.sameKey (.int .i64 x)) ∧ ∀ y, (left (kI y) && !(kI y).sameKey (.int .i64 x)) = true → y ∈ allBn B) := Lib.hid ⟨fun y hy hf => by
                  by_cases e : y = x
                  · rw [e]
                    exact ⟨HG1.out rfl, HG4.out (by omega)⟩
                  · refine HSN.out.1 y hy ?_
                    have hf' : (left (kI y) && !(kI y).sameKey (kI x)) = false := hf
                    rw [show (kI y).sameKey (kI x) = false from Maps.sameKey_ne (kI_ne e)] at hf'
                    simpa using hf', fun y hy => HSN.out.2 y (by simp only [Bool.and_eq_true] at hy; exact hy.1)⟩
              go_wp2_with (go_at_call 25; refine HCR.out.mono ?_; rintro e w2 ⟨rfl, hb2⟩)
              have hrg2 := hrg1.kept (below_grown hb2) (by simp) (by simp)
              go_roundw
              case rel => exact ⟨_, cnt1, hrg2, HN, hBx1.trans (hb2.mono hBx1.size), kbx1.below hb2 kbx1.lt⟩
              case measure =>
                rw [hrg2.left_eq, hrg.left_eq]
                exact hlt1
end Go.Proofs.Ytkpgjeeofghldaa
