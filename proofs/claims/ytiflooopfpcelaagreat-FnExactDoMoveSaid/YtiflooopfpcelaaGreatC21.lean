/- Contract of spec.l04Do. Condition: the program and the machine can be read, the move can be done. -/
import Derived.Test.YtiflooopfpcelaaGreatC21a
import Derived.Test.YtiflooopfpcelaaGreatKept
import Derived.Deep.CutBlock
namespace Go.Proofs.YtiflooopfpcelaaGreat
set_option maxRecDepth 20000
set_option linter.unusedSimpArgs false
set_option linter.unusedVariables false
open Go.ChangeShapes Go.WideShapes Go.ChangeAt Go.RowKit
set_option linter.unusedVariables false
set_option maxHeartbeats 12800000 in
theorem spec_l04Do (pv mv tv : Value) (p : Pr) (M : Ma) (m : Mv) (w : World) (h : RdSS w pv p.x) (hm : RdMa w mv tv M) (hcm : canMv p M m = true) (hsz : totMa M ≤ 16777215) :
    Calls Tryz.prog 37 #[.agg #[.int .i64 p.c, pv], .agg #[mv, tv], .agg #[.int .i64 m.t, .bool m.d]] w (RetMa (doAt p M m) w) := by
  obtain ⟨k, t, code, hk, hok, ht, hcd, hx⟩ := can_parts hcm
  obtain ⟨mt, md⟩ := m
  simp only at hk hx
  subst hk
  clear hcm
  obtain ⟨A0, c0, B0, d0, rfl, rfl, -⟩ := id hm.slices
  obtain ⟨vsp, ⟨Ap, cp, rfl, -, hnp, hcp, hrp⟩, hin⟩ := id h
  unfold maxLen at hcp
  have kv := (Bk.new ((w.alloc (.cells #[.int .i64 p.c, .slice Ap p.x.length cp] 43)).alloc (.cells #[.slice A0 M.mem.length c0, .slice B0 M.ths.length d0] 38)) #[.int .i64 k, .bool md] 46).alloc (.cells #[.slice none 0 0, .slice none 0 0] 38)
  have kp := (((Bk.new w #[.int .i64 p.c, .slice Ap p.x.length cp] 43).alloc (.cells #[.slice A0 M.mem.length c0, .slice B0 M.ths.length d0] 38)).alloc (.cells #[.int .i64 k, .bool md] 46)).alloc (.cells #[.slice none 0 0, .slice none 0 0] 38)
  have kr := Bk.new (((w.alloc (.cells #[.int .i64 p.c, .slice Ap p.x.length cp] 43)).alloc (.cells #[.slice A0 M.mem.length c0, .slice B0 M.ths.length d0] 38)).alloc (.cells #[.int .i64 k, .bool md] 46)) #[.slice none 0 0, .slice none 0 0] 38
  have hB0 := ((((Below.refl w.heap.size w).alloc (Nat.le_refl _) (.cells #[.int .i64 p.c, .slice Ap p.x.length cp] 43)).alloc (by simp) (.cells #[.slice A0 M.mem.length c0, .slice B0 M.ths.length d0] 38)).alloc (by simp; omega) (.cells #[.int .i64 k, .bool md] 46)).alloc (by simp; omega) (.cells #[.slice none 0 0, .slice none 0 0] 38)
  have km := ((Bk.new (w.alloc (.cells #[.int .i64 p.c, .slice Ap p.x.length cp] 43)) #[.slice A0 M.mem.length c0, .slice B0 M.ths.length d0] 38).alloc (.cells #[.int .i64 k, .bool md] 46)).alloc (.cells #[.slice none 0 0, .slice none 0 0] 38)
  obtain ⟨W0, hW0⟩ : ∃ W0, W0 = (((w.alloc (.cells #[.int .i64 p.c, .slice Ap p.x.length cp] 43)).alloc (.cells #[.slice A0 M.mem.length c0, .slice B0 M.ths.length d0] 38)).alloc (.cells #[.int .i64 k, .bool md] 46)).alloc (.cells #[.slice none 0 0, .slice none 0 0] 38) := ⟨_, rfl⟩
  rw [← hW0] at kp km kv kr hB0
  simp only [World.size_alloc] at km kv kr
  have hr0 := kr.lt
  have HW := Lib.hid hW0
  obtain ⟨y0, -⟩ := km.at_ 0 (x := .slice A0 M.mem.length c0) rfl
  obtain ⟨y1, -⟩ := km.at_ 1 (x := .slice B0 M.ths.length d0) rfl
  have HM := Lib.hid hm
  have HIN := Lib.hid hin
  have HRP := Lib.hid hrp
  have HB0 := Lib.hid hB0
  have hth := machOk_th hok ht hcd
  have HTH := Lib.hid hth
  have HOK := Lib.hid hok
  have HD : Hid (doAt p M ⟨k, md⟩ = if md then drainF M k t else execF M k t code) := Lib.hid (doAt_eq ht hcd)
  have hkl := (List.getElem?_eq_some_iff.1 ht).1
  have hkl' : (k : Int) < M.ths.length := by omega
  have hl4 : t.v.length = 4 := (thOk_parts hth).2.1
  have HL4 := Lib.hid hl4
  have hml : (M.mem.length : Int) = p.c := (machOk_parts hok).2.2.1
  have hml0 : 0 < M.mem.length := by have := progOk_len (machOk_parts hok).1; omega
  have HML := Lib.hid hml
  have hc16 := progOk_len (machOk_parts hok).1
  clear hW0 hB0 h hm hin hrp km hth hok hl4 hml
  go_enter Tryz.func37, Tryz.ntmps37
  go_wp2_with fail
  rw [← HW.out]
  try go_wp2_with fail
  refine (l04CopyT _ _ M _ (HM.out.below HB0.out) hsz).mono ?_
  rintro e w1 ⟨mv1, tv1, vs, qs, bm, bt, rfl, hom, hoT, ⟨hBT, hSp⟩, hdis, hlm, hlt, hb1⟩
  obtain ⟨bT, oT, cT, rfl, rfl, -, -, hcT1, hcT2⟩ := hoT.row.open_ (by omega)
  obtain ⟨bc, oc, cc, rfl, rfl, -, -, hcc1, hcc2⟩ := hom.open_ (by omega)
  obtain ⟨a, f, qa, qb, hp, hq⟩ := hoT.get ht
  have hA1 := (Below.refl w1.heap.size w1).alloc (Nat.le_refl _) (.cells #[.slice (some ⟨bc, oc, none⟩) M.mem.length cc, .slice (some ⟨bT, oT, none⟩) M.ths.length cT] 38)
  have htl := hoT.own.lt
  have hml1 := hom.lt
  rw [tblk_row] at htl
  have hMB1 : MB (w1.alloc (.cells #[.slice (some ⟨bc, oc, none⟩) M.mem.length cc, .slice (some ⟨bT, oT, none⟩) M.ths.length cT] 38)) w1.heap.size bT oT cT (.slice (some ⟨bc, oc, none⟩) M.mem.length cc) M vs qs [bc] :=
    ⟨Bk.new _ _ _, hom.below hA1, ⟨hoT.lv, hoT.lq, hoT.own.below hA1⟩, fun b hb => by simpa [tblk] using hdis b hb, fun hm => by have := hml1 _ hm; omega, fun hm => by have := htl _ hm; omega⟩
  obtain ⟨x0, x1, x2, -, -, -⟩ := hMB1.cells ht hp
  obtain ⟨bv, ov, cv, f0, qa0, qb0, hp0, -, -, -, -, -⟩ := hMB1.valAt ht (by have := HL4.out; omega)
  rw [hp] at hp0
  injection hp0 with hp0
  injection hp0 with hp0 hp00
  subst hp0 hp00
  obtain ⟨Af, cf, rfl, hcf1, hcf2⟩ := (hoT.buf ht hp hq).slice
  try simp only at hcf1
  obtain ⟨n1, -⟩ := hMB1.box.at_ 1 (x := .slice (some ⟨bT, oT, none⟩) M.ths.length cT) rfl
  have kv1 := (kv.below hb1 kv.lt).alloc (.cells #[.slice (some ⟨bc, oc, none⟩) M.mem.length cc, .slice (some ⟨bT, oT, none⟩) M.ths.length cT] 38)
  obtain ⟨v0, -⟩ := kv1.at_ 0 (x := .int .i64 k) rfl
  have hA2 := (Below.refl _ (w1.alloc (.cells #[.slice (some ⟨bc, oc, none⟩) M.mem.length cc, .slice (some ⟨bT, oT, none⟩) M.ths.length cT] 38))).alloc (Nat.le_refl _) (.cells #[.int .i64 t.pc, .slice (some ⟨bv, ov, none⟩) t.v.length cv, .slice Af t.f.length cf] 73)
  have hMB := hMB1.below hA2
  have kth := Bk.new (w1.alloc (.cells #[.slice (some ⟨bc, oc, none⟩) M.mem.length cc, .slice (some ⟨bT, oT, none⟩) M.ths.length cT] 38)) #[.int .i64 t.pc, .slice (some ⟨bv, ov, none⟩) t.v.length cv, .slice Af t.f.length cf] 73
  simp only [World.size_alloc] at kth
  have kv2 := kv1.alloc (.cells #[.int .i64 t.pc, .slice (some ⟨bv, ov, none⟩) t.v.length cv, .slice Af t.f.length cf] 73)
  have kp2 := ((kp.below hb1 kp.lt).alloc (.cells #[.slice (some ⟨bc, oc, none⟩) M.mem.length cc, .slice (some ⟨bT, oT, none⟩) M.ths.length cT] 38)).alloc (.cells #[.int .i64 t.pc, .slice (some ⟨bv, ov, none⟩) t.v.length cv, .slice Af t.f.length cf] 73)
  have kr2 := ((kr.below hb1 kr.lt).alloc (.cells #[.slice (some ⟨bc, oc, none⟩) M.mem.length cc, .slice (some ⟨bT, oT, none⟩) M.ths.length cT] 38)).alloc (.cells #[.int .i64 t.pc, .slice (some ⟨bv, ov, none⟩) t.v.length cv, .slice Af t.f.length cf] 73)
  have hB2 := (HB0.out.trans (hb1.mono HB0.out.size)).trans ((hA1.trans (hA2.mono hA1.size)).mono (HB0.out.trans (hb1.mono HB0.out.size)).size)
  have hBF := hBT k t _ _ ht hp hq
  have hBF2 := ownsRow_below hBF.1 (hA1.trans (hA2.mono hA1.size))
  obtain ⟨W2, hW2⟩ : ∃ W2, W2 = (w1.alloc (.cells #[.slice (some ⟨bc, oc, none⟩) M.mem.length cc, .slice (some ⟨bT, oT, none⟩) M.ths.length cT] 38)).alloc (.cells #[.int .i64 t.pc, .slice (some ⟨bv, ov, none⟩) t.v.length cv, .slice Af t.f.length cf] 73) := ⟨_, rfl⟩
  have v1' := (kv2.at_ 1 (x := .bool md) rfl).1
  have HW2 := Lib.hid hW2
  have hs1 := hb1.size
  have hs2 : W2.heap.size = w1.heap.size + 2 := by rw [hW2]; simp
  rw [← hW2] at hMB kth kv2 kp2 kr2 hB2 hBF2
  have HALL := Lib.hid (And.intro hMB (And.intro kth (And.intro kv2 (And.intro kp2 (And.intro kr2 (And.intro hB2 hBF2))))))
  have hSF := hSp k t _ _ ht hp hq
  have hFL : ∀ g, (Value.slice Af t.f.length cf).ownBlock = some g → g < w1.heap.size ∧ W0.heap.size + 2 ≤ g ∧ g ≠ w1.heap.size := by
    intro g hg
    obtain ⟨-, ⟨he, -⟩ | ⟨g', _, _, he, hb', hgb, _⟩⟩ := hBF.1
    · simp only at he
      rw [he] at hg
      cases hg
    · simp only at he
      rw [he] at hg
      injection hg with hg
      have hg : g' = g := hg
      subst hg
      have := (Array.getElem?_eq_some_iff.1 hgb).1
      exact ⟨this, hb', by omega⟩
  have HLO := Lib.hid (And.intro hlm (And.intro hlt (And.intro hBF.2 (And.intro hSF hFL))))
  have HTL := Lib.hid htl
  have HML1 := Lib.hid hml1
  clear hMB kth kv2 kp2 kr2 hB2 hBF hBF2 hMB1 hom hoT hBT hSp hSF hFL hb1 hA1 hA2 hW2 kv kp kr y0 y1 kv1 hlm hlt hdis htl hml1
  cases md with
  | true =>
    go_wp2_with fail
    rw [← HW2.out]
    obtain ⟨hMB, kth, kv2, kp2, kr2, hB2, hBF2⟩ := HALL.out
    obtain ⟨h1, -, hf, hvv, hlow⟩ := thOk_parts HTH.out
    have hmok := (machOk_parts HOK.out).2.1
    have hfl : 0 < t.f.length := by simpa [canT, canDr] using hx
    obtain ⟨x, xs, hfx⟩ : ∃ x xs, t.f = x :: xs := by
      cases h : t.f with
      | nil => rw [h] at hfl; simp at hfl
      | cons x xs => exact ⟨x, xs, rfl⟩
    have hsl : slotOk x = true := by
      simp only [bufOk, Bool.and_eq_true, List.all_eq_true] at hf
      exact hf.2 x (by simp [hfx])
    simp only [slotOk, Bool.and_eq_true] at hsl
    have hxa := inB_true hsl.1
    have hxl : x.a < p.c := by
      rw [List.all_eq_true] at hlow
      have := hlow x (by simp [hfx])
      simpa [lowA] using this
    obtain ⟨na, hna⟩ : ∃ na : Nat, x.a = na := ⟨x.a.toNat, by omega⟩
    have hnl : na < M.mem.length := by have := HML.out; omega
    have hnl' : (na : Int) < M.mem.length := by omega
    have hpk : pokeOk M.mem x.a x.b = true := by
      have := HML.out
      simp only [pokeOk, hmok, hsl.2, Bool.true_and, Bool.and_true]
      exact inB_of (by omega)
    have hDD : drainF M k t = ⟨M.mem.set na x.b, M.ths.set k ⟨t.pc, t.v, xs⟩⟩ := by
      have h2 : drM t.f M.mem = M.mem.set na x.b := by
        rw [hfx] at hf ⊢
        show (if bufOk (x :: xs) then pokeF M.mem x.a x.b else M.mem) = _
        rw [if_pos hf, pokeF, if_pos hpk, hna, Int.toNat_natCast]
      have h3 : drB t.f M.mem = xs := by
        have h4 : drOk t.f M.mem = true := by rw [hfx] at hf ⊢; show (bufOk (x :: xs) && pokeOk M.mem x.a x.b) = true; rw [hf, hpk]; rfl
        rw [drB, if_pos h4, hfx]
        rfl
      unfold drainF drainT
      rw [h2, h3]
    have HDD : Hid (doAt p M ⟨k, true⟩ = ⟨M.mem.set na x.b, M.ths.set k ⟨t.pc, t.v, xs⟩⟩) := Lib.hid (by rw [HD.out]; exact hDD)
    have hbuf := hMB.ths.buf ht hp hq
    simp only at hbuf
    obtain ⟨bf, of_, cf', he, hqb, lf, hatf, hcf1', -⟩ := hbuf.open_ hfl
    injection he with he1 _ he3
    subst he1 he3 hqb
    have hbfM : bf ∈ tblk M.ths vs qs bT := (mem_tblk_v (bT := bT) ht hp hq).2 bf (by simp)
    rw [hfx] at hbuf
    have HBUF := Lib.hid hbuf
    obtain ⟨x', hxk, hx0, hx1⟩ := p2_at (k := 0) (xs := t.f) (b := bf) (o := of_) hatf.read hfl
    have hxx : x' = x := by have := hxk.out; rw [hfx] at this; simpa using this.symm
    rw [hxx] at hx0 hx1
    simp only [Nat.zero_mul, Nat.add_zero] at hx0 hx1
    rw [hna] at hx0
    obtain ⟨u, hu⟩ : ∃ u, M.mem[na]? = some u := ⟨_, List.getElem?_eq_getElem hnl⟩
    have hmat := hMB.mem
    obtain ⟨bc', oc', cc', he, hbc, lbc, hatm, -, -⟩ := hmat.open_ hml0
    injection he with he1 _ he3
    injection he1 with he1
    injection he1 with he1 he2
    subst he1 he2 he3
    obtain ⟨mu, fu⟩ := hatm na (.int .i64 u) (by simp [ints, hu])
    have lgm := hMB.lt w1.heap.size (by simp)
    have lth := kth.lt
    have P0 := fun q : Past W2 => Past.cell lgm (hMB.box.at_ 0 (x := .slice (some ⟨bc, oc, none⟩) M.mem.length cc) rfl).1 q
    have P1 := fun q : Past W2 => Past.cell lth (kth.at_ 2 (x := .slice (some ⟨bf, of_, none⟩) t.f.length cf) rfl).1 q
    have P2 := fun q : Past W2 => Past.cell lf hx0 q
    have P3 := fun q : Past W2 => Past.cell lf hx1 q
    have hfl' : (0 : Int) < t.f.length := by omega
    have hfl1 : (1 : Int) ≤ t.f.length := by omega
    have hM3 := hMB.setM na hnl x.b
    obtain ⟨hlm, hlt, -⟩ := HLO.out
    have hbcL : ∀ b ∈ [bc] ++ tblk M.ths vs qs bT, w.heap.size + 1 + 1 + 1 < b ∧ b < w1.heap.size := fun b hb => by
      rcases List.mem_append.1 hb with hb | hb
      · have h2 := HML1.out b hb
        have h3 := hlm b hb
        exact ⟨by omega, h2⟩
      · have h2 := HTL.out b hb
        have h3 := hlt b (by simpa [tblk] using hb)
        exact ⟨by omega, h2⟩
    clear hbuf hmat hatf hatm hu hDD
    refine wp_region_two 14 14 (fun w' => ∃ q : Past W2, w' = q.v) (fun _ => True) (by kernel_rfl) ?_
    refine wpAnyX_pass (C := (fun w' => ∃ q : Past W2, w' = q.v)) (some false) [true, true, true, true, true, true, true, true, true, true, true, true, true, true] rfl (by kernel_rfl) (fun _ _ t _ _ h => by cases t <;> exact h) ⟨fun _ => ⟨⟨W2.drew, (Below.refl _ _).drew⟩, rfl⟩, fun _ => trivial⟩ ?_
    simp only [keepOps]
    repeat (go_big_quiet_step (fail))
    refine wpQuiet_nil ?_
    clear P0 P1 P2 P3
    refine wpAnyX_one 14 rfl (by kernel_rfl) (by kernel_rfl) ?_
    go_wp2_with fail
    refine ⟨⟨fun h => absurd (show true = false from h) (by decide), fun _ => trivial⟩, ?_⟩
    refine wpAnyX_done (by kernel_rfl) ?_
    have hbcw := hbcL bc (by simp)
    have hbTw := hbcL bT (by simp [tblk])
    have hbfw := hbcL bf (List.mem_append.2 (.inr hbfM))
    have hbcN : bc ∉ tblk M.ths vs qs bT := hMB.d1 bc (by simp)
    have hcT : bc ≠ bT := fun e => hbcN (by simp [tblk, e])
    have hcF : bc ≠ bf := fun e => hbcN (e ▸ hbfM)
    have kthM := kth.far (p := ⟨bc, oc + na, none⟩) (by show w1.heap.size + 1 ≠ bc; omega) (.int .i64 x.b)
    have krM := kr2.far (p := ⟨bc, oc + na, none⟩) (by show w.heap.size + 1 + 1 + 1 ≠ bc; omega) (.int .i64 x.b)
    have kvM := kv2.far (p := ⟨bc, oc + na, none⟩) (by show w.heap.size + 1 + 1 ≠ bc; omega) (.int .i64 x.b)
    have hBM := hB2.setCell (p := ⟨bc, oc + na, none⟩) (by show w.heap.size ≤ bc; omega) (.int .i64 x.b)
    obtain ⟨hMM, -⟩ := hM3
    obtain ⟨z2, y2⟩ := kthM.at_ 2 (x := .slice (some ⟨bf, of_, none⟩) t.f.length cf) rfl
    obtain ⟨qb', hT, hqb'⟩ := Own.tail2 HBUF.out hcf2
    have hTM := hT.far (b := bc) (i := oc + na) (u := .int .i64 x.b) (fun y hy => by rw [hqb' y hy]; exact fun e => hcF e.symm)
    clear hT HBUF
    have hqb2 : ∀ y ∈ qb', w.heap.size + 1 + 1 + 1 < y := fun y hy => by rw [hqb' y hy]; omega
    have hcase : (cf = 1 ∧ (if cf = 1 then some (⟨bf, of_, none⟩ : Addr) else some ⟨bf, of_ + 2, none⟩) = some ⟨bf, of_, none⟩) ∨ (cf ≠ 1 ∧ (if cf = 1 then some (⟨bf, of_, none⟩ : Addr) else some ⟨bf, of_ + 2, none⟩) = some ⟨bf, of_ + 2, none⟩) := by
      rcases Decidable.em (cf = 1) with h | h
      · exact .inl ⟨h, if_pos h⟩
      · exact .inr ⟨h, if_neg h⟩
    obtain ⟨A', hA'⟩ : ∃ A', A' = (if cf = 1 then some (⟨bf, of_, none⟩ : Addr) else some ⟨bf, of_ + 2, none⟩) := ⟨_, rfl⟩
    rw [← hA'] at hTM hcase
    clear hA'
    have hqM : (M.ths.set k t) = M.ths := set_same ht
    have kthN := kthM.set_ 2 (.slice A' xs.length (cf - 1))
    have hne1 : w1.heap.size + 1 ≠ bc := by omega
    have krN := krM.far (p := ⟨w1.heap.size + 1, 2, none⟩) (by show w.heap.size + 1 + 1 + 1 ≠ w1.heap.size + 1; omega) (.slice A' xs.length (cf - 1))
    have kvN := kvM.far (p := ⟨w1.heap.size + 1, 2, none⟩) (by show w.heap.size + 1 + 1 ≠ w1.heap.size + 1; omega) (.slice A' xs.length (cf - 1))
    have hBN := hBM.setCell (p := ⟨w1.heap.size + 1, 2, none⟩) (by show w.heap.size ≤ w1.heap.size + 1; omega) (.slice A' xs.length (cf - 1))
    have hnl1 : w1.heap.size + 1 ∉ w1.heap.size :: ([bc] ++ tblk M.ths vs qs bT) := fun hm => by
      rcases List.mem_cons.1 hm with h | h
      · omega
      · have := hbcL _ h; omega
    have hMN := hMM.far (b := w1.heap.size + 1) (i := 2) (u := .slice A' xs.length (cf - 1)) hnl1
    have hTN := hTM.far (b := w1.heap.size + 1) (i := 2) (u := .slice A' xs.length (cf - 1)) (fun y hy => by rw [hqb' y hy]; omega)
    obtain ⟨n0, -⟩ := hMN.box.at_ 0 (x := .slice (some ⟨bc, oc, none⟩) M.mem.length cc) rfl
    obtain ⟨n1, -⟩ := hMN.box.at_ 1 (x := .slice (some ⟨bT, oT, none⟩) M.ths.length cT) rfl
    obtain ⟨c0, f0⟩ := kthN.at_ 0 (x := .int .i64 t.pc) rfl
    obtain ⟨c1, f1⟩ := kthN.at_ 1 (x := .slice (some ⟨bv, ov, none⟩) t.v.length cv) rfl
    obtain ⟨c2, f2⟩ := kthN.at_ 2 (x := .slice A' xs.length (cf - 1)) rfl
    obtain ⟨mv0, -⟩ := kvN.at_ 0 (x := .int .i64 k) rfl
    have htx : (⟨M.mem.set na x.b, M.ths⟩ : Ma).ths[k]? = some t := ht
    obtain ⟨s0, s1, s2, r0, r1, r2⟩ := hMN.cells htx hp
    have hend := do_end (w := w) (gr := w.heap.size + 1 + 1 + 1) (x := xs) t.pc hMN htx hp hq hTN (fun y hy => .inl (by rw [hqb' y hy]; simp)) (fun b hb => (hbcL b hb).1) hqb2 krN hBN (by omega)
    obtain ⟨hg, hr, bs, hown, hbs, hBe⟩ := hend
    obtain ⟨g0, -⟩ := hg.at_ 0 (x := .slice (some ⟨bc, oc, none⟩) M.mem.length cc) rfl
    obtain ⟨g1, -⟩ := hg.at_ 1 (x := .slice (some ⟨bT, oT, none⟩) M.ths.length cT) rfl
    obtain ⟨q0, u0⟩ := hr.at_ 0 (x := .slice none 0 0) rfl
    obtain ⟨q1, u1⟩ := hr.at_ 1 (x := .slice none 0 0) rfl
    have HEND := Lib.hid (And.intro hown (And.intro hbs hBe))
    clear hown hbs hBe hg hr
    rcases hcase with ⟨hc1, rfl⟩ | ⟨hc1, rfl⟩
    · subst hc1
      try simp only [Nat.sub_self] at g0 g1 q0 q1 u0 u1
      go_wp2_with fail
      exact bodyPost_ret (v := .agg #[.slice (some ⟨bc, oc, none⟩) M.mem.length cc, .slice (some ⟨bT, oT, none⟩) M.ths.length cT]) (by simp [results, Tryz.results37, go_sem, q0, q1, u0, u1]) rfl
        (by rw [HDD.out]; exact ⟨_, _, _, rfl, HEND.out.1.below (Below.refl _ _).drew, HEND.out.2.1, HEND.out.2.2.drew⟩)
    · go_wp2_with fail
      exact bodyPost_ret (v := .agg #[.slice (some ⟨bc, oc, none⟩) M.mem.length cc, .slice (some ⟨bT, oT, none⟩) M.ths.length cT]) (by simp [results, Tryz.results37, go_sem, q0, q1, u0, u1]) rfl
        (by rw [HDD.out]; exact ⟨_, _, _, rfl, HEND.out.1.below (Below.refl _ _).drew, HEND.out.2.1, HEND.out.2.2.drew⟩)
  | false =>
    go_wp2_with fail
    rw [← HW2.out]
    obtain ⟨hMB, kth, kv2, kp2, kr2, hB2, hBF2⟩ := HALL.out
    have hE := exec_of HOK.out ht hcd (by simpa [canT] using hx)
    obtain ⟨n, hn⟩ : ∃ n : Nat, t.pc = n := ⟨t.pc.toNat, by have := hE.lt; omega⟩
    have hnl : n < code.length := by have := hE.lt; omega
    have hnl' : (n : Int) < code.length := by omega
    have hpk := (List.getElem?_eq_some_iff.1 hcd).1
    have hpk' : (k : Int) < p.x.length := by omega
    obtain ⟨bp, op, rfl, hbp, hpc⟩ := HRP.out (by omega)
    obtain ⟨ck, hck, hrk⟩ := HIN.out.at_ hcd
    obtain ⟨Ak, dk, rfl, -, hnk, hdk, hrck⟩ := id hrk
    unfold maxLen at hdk
    obtain ⟨bi, oi, rfl, hbi, hcell⟩ := hrck (by omega)
    obtain ⟨i, hik, hx0, hx1, hx2, hx3⟩ := ins_at hcell hnl
    have hi : insAt t code = i := by
      unfold insAt
      rw [hn, Int.toNat_natCast, List.getD_eq_getElem?_getD, hik.out]
      rfl
    rw [hi] at hE
    have HX : Hid (doAt p M ⟨k, false⟩ = effF M k (stepT t) i) := Lib.hid (by rw [HD.out]; show execF M k t code = _; unfold execF; rw [hi])
    have hpcw : IntKind.i64.wrap ((n : Int) + 1) = n + 1 := IntWalk.i64_in _ (by have := hE.lt; have := hnk; omega)
    rw [hn] at kth
    have lth := kth.lt
    have lv := kv2.lt
    have lp := kp2.lt
    have hsW := hB2.size
    have P0 := fun q : Past W2 => Past.cell lp (kp2.at_ 1 (x := .slice (some ⟨bp, op, none⟩) p.x.length cp) rfl).1 q
    have P1 := fun q : Past W2 => Past.cell lv (kv2.at_ 0 (x := .int .i64 k) rfl).1 q
    have P2 := fun q : Past W2 => Past.cell (b := bp) (o := op + k) (by omega) ((hB2.cell (p := ⟨bp, op + k, none⟩) hbp).trans (hpc k _ hck)) q
    have P3 := fun q : Past W2 => Past.cell lth (kth.at_ 0 (x := .int .i64 n) rfl).1 q
    have P4 := fun q : Past W2 => Past.cell (by omega) ((hB2.cell hbi).trans hx0) q
    have P5 := fun q : Past W2 => Past.cell (by omega) ((hB2.cell hbi).trans hx1) q
    have P6 := fun q : Past W2 => Past.cell (by omega) ((hB2.cell hbi).trans hx2) q
    have P7 := fun q : Past W2 => Past.cell (by omega) ((hB2.cell hbi).trans hx3) q
    have HE := Lib.hid hE
    have HI := Lib.hid hi
    have HN := Lib.hid hn
    clear hE hi hpc hck hrk hrck hcell hx0 hx1 hx2 hx3 hMB kth kv2 kp2 kr2 hB2 hBF2 hn
    refine wp_region_two 11 11 (fun w' => ∃ q : Past W2, w' = q.v) (fun _ => True) (by kernel_rfl) ?_
    refine wpAnyX_pass (C := (fun w' => ∃ q : Past W2, w' = q.v)) (some false) [true, true, true, true, true, true, true, true, true, true] rfl (by kernel_rfl) (fun _ _ t _ _ h => by cases t <;> exact h) ⟨fun _ => ⟨⟨W2.drew, (Below.refl _ _).drew⟩, rfl⟩, fun _ => trivial⟩ ?_
    simp only [keepOps]
    repeat (go_big_quiet_step (fail))
    refine wpQuiet_nil ?_
    clear P0 P1 P2 P3 P4 P5 P6 P7
    refine wpAnyX_one 10 rfl (by kernel_rfl) (by kernel_rfl) ?_
    go_wp2_with fail
    refine ⟨⟨fun _ => ⟨⟨_, ((Below.refl _ W2).alloc (Nat.le_refl _) _).drew⟩, rfl⟩, fun _ => trivial⟩, ?_⟩
    refine wpAnyX_one 11 rfl (by kernel_rfl) (by kernel_rfl) ?_
    go_wp2_with fail
    refine ⟨⟨fun h => absurd (show true = false from h) (by decide), fun _ => trivial⟩, ?_⟩
    refine wpAnyX_done (by kernel_rfl) ?_
    obtain ⟨hMB, kth, kv2, kp2, kr2, hB2, hBF2⟩ := HALL.out
    rw [HN.out] at kth
    have kin := (Bk.new W2 #[.int .i64 i.o, .int .i64 i.r, .int .i64 i.s, .int .i64 i.n] 120)
    have kth3 := kth.alloc (.cells #[.int .i64 i.o, .int .i64 i.r, .int .i64 i.s, .int .i64 i.n] 120)
    obtain ⟨i0, -⟩ := (kin.far (p := ⟨w1.heap.size + 1, 0, none⟩) (by show W2.heap.size ≠ w1.heap.size + 1; omega) (.int .i64 (n + 1))).at_ 0 (x := .int .i64 i.o) rfl
    obtain ⟨c0, f0⟩ := kth3.at_ 0 (x := .int .i64 n) rfl
    obtain ⟨c1, f1⟩ := kth3.at_ 1 (x := .slice (some ⟨bv, ov, none⟩) t.v.length cv) rfl
    clear hMB kth kv2 kp2 kr2 hB2 hBF2 kin kth3
    go_upto_block 0 with (fail)
    go_cut [] (fun wx => SwEnd w w1.heap.size (w.heap.size + 1 + 1 + 1) (w.heap.size + 1 + 1) bT oT cT bc oc cc M.mem.length M.ths.length bv ov t.v.length cv k false vs qs (effF M k (stepT t) i) wx)
    case first =>
      obtain ⟨io, ir, is, inn⟩ := i
      obtain ⟨hMB, kth, kv2, kp2, kr2, hB2, hBF2⟩ := HALL.out
      obtain ⟨hlm, hlt, hFq, hFs, hFL⟩ := HLO.out
      rw [HN.out] at kth
      have hl4 : t.v.length = 4 := HL4.out
      have hbcL : ∀ b ∈ [bc] ++ tblk M.ths vs qs bT, w.heap.size + 1 + 1 + 1 < b ∧ b < w1.heap.size := fun b hb => by
        rcases List.mem_append.1 hb with hb | hb
        · have h2 := HML1.out b hb
          have h3 := hlm b hb
          exact ⟨by omega, h2⟩
        · have h2 := HTL.out b hb
          have h3 := hlt b (by simpa [tblk] using hb)
          exact ⟨by omega, h2⟩
      have hqbt := (mem_tblk_v (bT := bT) ht hp hq)
      have hqL : ∀ y ∈ qb, w.heap.size + 1 + 1 + 1 < y ∧ y < w1.heap.size := fun y hy => hbcL y (List.mem_append.2 (.inr (hqbt.2 y hy)))
      have hSw2 : Sw w w1.heap.size (w.heap.size + 1 + 1 + 1) (w.heap.size + 1 + 1) bT oT cT bc oc cc bv ov t.v.length cv k false vs qs M t n (.slice Af t.f.length cf) (.slice Af t.f.length cf) t.f qa qb qb W2 :=
        ⟨hMB, ht, hp, hq, kth, hMB.ths.buf ht hp hq, fun y hy => ⟨hMB.apart ht hp hq (by omega) y hy, fun e => hMB.d1 bc (by simp) (e ▸ hqbt.2 y hy), by have := hqL y hy; omega⟩, fun y hy => .inl hy, fun y hy => (hqL y hy).1,
          fun b hb => ⟨(hbcL b hb).1, by have := hbcL b hb; omega⟩, kr2, kv2, ⟨by omega, by omega, by omega⟩, hB2⟩
      have hab := ((Below.refl _ (W2.setCell ⟨w1.heap.size + 1, 0, none⟩ (.int .i64 (n + 1)))).alloc (Nat.le_refl _) (.cells #[.int .i64 io, .int .i64 ir, .int .i64 is, .int .i64 inn] 120)).drew
      have hS4 := (hSw2.setPc (n + 1)).below hab
      have hsS : (W2.setCell ⟨w1.heap.size + 1, 0, none⟩ (.int .i64 (n + 1))).heap.size = w1.heap.size + 2 := by rw [← hs2]; simp [World.setCell]
      have kin4 := (Bk.new (W2.setCell ⟨w1.heap.size + 1, 0, none⟩ (.int .i64 (n + 1))) #[.int .i64 io, .int .i64 ir, .int .i64 is, .int .i64 inn] 120)
      have kin4 := kin4.below (Below.refl _ _).drew kin4.lt
      rw [hsS] at kin4
      have hF4 : ((W2.setCell ⟨w1.heap.size + 1, 0, none⟩ (.int .i64 (n + 1))).alloc (.cells #[.int .i64 io, .int .i64 ir, .int .i64 is, .int .i64 inn] 120)).drew.ownsRow (W0.heap.size + 2) 106 2 (.slice Af t.f.length cf) t.f.length (flc2 t.f) := by
        refine ownsRow_below ?_ hab
        refine hBF2.kept ⟨rfl, rfl, rfl, by simp [World.setCell], fun b hb hn => Below.heap_setCell _ _ _ _ (by simpa using hn)⟩ (row := some (w1.heap.size + 1)) ?_
        cases hob : (Value.slice Af t.f.length cf).ownBlock with
        | none => exact .inl rfl
        | some g => exact .inr fun e => by injection e with e; have := (hFL g hob).1; omega
      have hFg : ∀ g, (Value.slice Af t.f.length cf).ownBlock = some g → (g ∈ qb ∨ g ∉ [bc] ++ tblk M.ths vs qs bT) ∧ g ≠ w1.heap.size ∧ g ≠ w1.heap.size + 1 ∧ w.heap.size + 1 + 1 + 1 < g := by
        intro g hg
        obtain ⟨h1, h2, h3⟩ := hFL g hg
        refine ⟨?_, h3, by omega, by omega⟩
        rcases hFq g hg with h4 | h4
        · exact .inl h4
        · refine .inr fun hm => ?_
          have h5 := hFs g hg
          simp only [tblk, List.mem_append, List.mem_cons, List.mem_singleton, List.not_mem_nil, or_false] at hm h5
          rcases hm with h6 | h6 | h6
          · exact h5 (.inl h6)
          · exact h5 (.inr h6)
          · exact h4 h6
      obtain ⟨W4, hW4⟩ : ∃ W4, W4 = ((W2.setCell ⟨w1.heap.size + 1, 0, none⟩ (.int .i64 (n + 1))).alloc (.cells #[.int .i64 io, .int .i64 ir, .int .i64 is, .int .i64 inn] 120)).drew := ⟨_, rfl⟩
      rw [← hW4] at hS4 kin4 hab hF4
      have hE : InsR3 ⟨io, ir, is, inn⟩ p.c code.length := HE.out.r
      have hre : 0 ≤ ir ∧ ir ≤ 3 := hE.r
      have hse : 0 ≤ is ∧ is ≤ 3 := hE.s
      have hoe : 0 ≤ io ∧ io ≤ 8 := hE.o
      have hbcw := (hbcL bc (by simp)).2
      obtain ⟨nr, rfl⟩ : ∃ j : Nat, ir = j := ⟨ir.toNat, by omega⟩
      obtain ⟨ns, rfl⟩ : ∃ j : Nat, is = j := ⟨is.toNat, by omega⟩
      have hnr : nr < t.v.length := by omega
      have hns : ns < t.v.length := by omega
      have hnr' : (nr : Int) < t.v.length := by omega
      have hns' : (ns : Int) < t.v.length := by omega
      obtain ⟨xr, hxr⟩ : ∃ x, t.v[nr]? = some x := ⟨_, List.getElem?_eq_getElem hnr⟩
      obtain ⟨xs, hxs⟩ : ∃ x, t.v[ns]? = some x := ⟨_, List.getElem?_eq_getElem hns⟩
      have hgr : gv (stepT t) (nr : Int) = xr := by simp [gv, stepT, List.getD_eq_getElem?_getD, hxr]
      have hgs : gv (stepT t) (ns : Int) = xs := by simp [gv, stepT, List.getD_eq_getElem?_getD, hxs]
      obtain ⟨bv', ov', cv', f', qa', qb', hp', hq', hbvl, hcv1, hcv2, hat⟩ := hS4.mb.valAt ht (by omega)
      rw [hp] at hp'
      injection hp' with hp'
      injection hp' with e1 e2
      injection e1 with e1 _ e3
      injection e1 with e1
      injection e1 with e1 e4
      subst e1 e4 e3 e2
      obtain ⟨vr, fr⟩ := hat nr xr hxr
      obtain ⟨vs1, -⟩ := hat ns xs hxs
      obtain ⟨I0, -⟩ := kin4.at_ 0 (x := .int .i64 io) rfl
      obtain ⟨I1, -⟩ := kin4.at_ 1 (x := .int .i64 nr) rfl
      obtain ⟨I2, -⟩ := kin4.at_ 2 (x := .int .i64 ns) rfl
      obtain ⟨I3, -⟩ := kin4.at_ 3 (x := .int .i64 inn) rfl
      obtain ⟨T0, G0⟩ := hS4.th.at_ 0 (x := .int .i64 (n + 1)) rfl
      obtain ⟨T2, G2⟩ := hS4.th.at_ 2 (x := .slice Af t.f.length cf) rfl
      have HS := Lib.hid hS4
      have HX4 := Lib.hid (And.intro kin4 (And.intro hF4 (And.intro hFg hab)))
      have HW4 := Lib.hid hW4
      clear hl4
      have HG := Lib.hid (And.intro hgr hgs)
      have HEE := Lib.hid hE
      have HXX := Lib.hid (And.intro hxr hxs)
      clear hMB kth kv2 kp2 kr2 hB2 hBF2 hlm hlt hFq hFs hFL hFg hF4 hbcL hqbt hqL hSw2 hab hsS kin4 hE hat hq' hgr hgs hxr hxs HX
      have hcase : io = 0 ∨ io = 1 ∨ io = 2 ∨ io = 3 ∨ io = 4 ∨ io = 5 ∨ io = 6 ∨ io = 7 ∨ io = 8 := by omega
      clear hoe
      rw [← hW4]
      clear hW4
      rcases hcase with rfl | rfl | rfl | rfl | rfl | rfl | rfl | rfl | rfl
      -- case 0
      · go_wp2_with fail
        go_meet
        exact (hS4.setV nr hnr inn).toEnd (by simp) rfl (by simp [effF, effM, effT, stepT, HN.out])
      -- case 1
      · skip
        have hvv := valsI HTH.out
        have hx1 := hvv nr xr HXX.out.1
        have hx2 := hvv ns xs HXX.out.2
        have hwr : IntKind.i64.wrap (xr + xs) = xr + xs := IntWalk.i64_in _ (by omega)
        clear hvv hx1 hx2
        have l1 := World.block_lt_of_cell? W4 _ I1
        have P1 := fun q : Past W4 => Past.cell l1 I1 q
        have P2 := fun q : Past W4 => Past.cell l1 I2 q
        have P3 := fun q : Past W4 => Past.cell hbvl vr q
        have P4 := fun q : Past W4 => Past.cell hbvl vs1 q
        go_wp2_with fail
        refine wp_region_two 16 16 (fun w' => ∃ q : Past W4, w' = q.v) (fun _ => True) (by kernel_rfl) ?_
        refine wpAnyX_pass (C := (fun w' => ∃ q : Past W4, w' = q.v)) (some false) [true, true, true, true, true, true, true, true, true, true, true, true, true, true, false, false] rfl (by kernel_rfl) (fun _ _ t _ _ h => by cases t <;> exact h) ⟨fun _ => ⟨⟨W4.drew, (Below.refl _ _).drew⟩, rfl⟩, fun _ => trivial⟩ ?_
        simp only [keepOps]
        repeat (go_big_quiet_step (fail))
        refine wpQuiet_nil ?_
        clear P1 P2 P3 P4
        refine wpAnyX_one 14 rfl (by kernel_rfl) (by kernel_rfl) ?_
        go_wp2_with fail
        refine (spec_Clamp _ _).mono ?_
        rintro e w6 ⟨rfl, rfl⟩
        try dsimp only
        go_wp2_with fail
        refine ⟨⟨fun _ => ⟨⟨W4.drew, (Below.refl _ _).drew⟩, rfl⟩, fun _ => trivial⟩, ?_⟩
        refine wpAnyX_one 15 rfl (by kernel_rfl) (by kernel_rfl) ?_
        go_wp2_with fail
        refine ⟨⟨fun _ => ⟨⟨W4.drew, (Below.refl _ _).drew⟩, rfl⟩, fun _ => trivial⟩, ?_⟩
        refine wpAnyX_one 16 rfl (by kernel_rfl) (by kernel_rfl) ?_
        go_wp2_with fail
        refine ⟨⟨fun h => absurd (show true = false from h) (by decide), fun _ => trivial⟩, ?_⟩
        refine wpAnyX_done (by kernel_rfl) ?_
        go_wp2_with fail
        go_meet
        exact ((hS4.setV nr hnr (clampF (xr + xs))).below (Below.refl _ _).drew).toEnd (by simp) rfl (by simp [effF, effM, effT, HG.out.1, HG.out.2]; simp [stepT, HN.out])
      -- case 2
      · skip
        have hn2 := HEE.out.n2 (by simp)
        have hn2a : 0 ≤ inn ∧ inn ≤ p.c - 1 := hn2
        clear hn2
        obtain ⟨na, rfl⟩ : ∃ j : Nat, inn = j := ⟨inn.toNat, by omega⟩
        have hnl : na < M.mem.length := by have := HML.out; omega
        have hnl' : (na : Int) < M.mem.length := by omega
        obtain ⟨u, hu⟩ : ∃ u, M.mem[na]? = some u := ⟨_, List.getElem?_eq_getElem hnl⟩
        obtain ⟨b', o', c', he, -, lbc, hatm, -, -⟩ := hS4.mb.mem.open_ hml0
        injection he with he1 _ he3
        injection he1 with he1
        injection he1 with he1 he2
        subst he1 he2 he3
        obtain ⟨mu, fu⟩ := hatm na (.int .i64 u) (by simp [ints, hu])
        have HU := Lib.hid hu
        clear hatm hu hn2a
        obtain ⟨n0, -⟩ := hS4.mb.box.at_ 0 (x := .slice (some ⟨bc, oc, none⟩) M.mem.length cc) rfl
        have HRT := Lib.hid (spec_ReadThrough _ _ t.f M.mem na W4.drew (hS4.own.rd.below (Below.refl _ _).drew) (hS4.mb.mem.rd.below (Below.refl _ _).drew) (WalkArith.wf_i64 (by omega)))
        have l1 := World.block_lt_of_cell? W4 _ I1
        have l0 := World.block_lt_of_cell? W4 _ n0
        have l2 := World.block_lt_of_cell? W4 _ T2
        have P1 := fun q : Past W4 => Past.cell l1 I1 q
        have P2 := fun q : Past W4 => Past.cell l1 I3 q
        have P3 := fun q : Past W4 => Past.cell l2 T2 q
        have P4 := fun q : Past W4 => Past.cell l0 n0 q
        go_wp2_with fail
        refine wp_region_two 11 11 (fun w' => ∃ q : Past W4, w' = q.v) (fun _ => True) (by kernel_rfl) ?_
        refine wpAnyX_pass (C := (fun w' => ∃ q : Past W4, w' = q.v)) (some false) [true, true, true, true, true, true, true, true, true, false, false] rfl (by kernel_rfl) (fun _ _ t _ _ h => by cases t <;> exact h) ⟨fun _ => ⟨⟨W4.drew, (Below.refl _ _).drew⟩, rfl⟩, fun _ => trivial⟩ ?_
        simp only [keepOps]
        repeat (go_big_quiet_step (fail))
        refine wpQuiet_nil ?_
        clear P1 P2 P3 P4
        refine wpAnyX_one 9 rfl (by kernel_rfl) (by kernel_rfl) ?_
        go_wp2_with fail
        refine HRT.out.mono ?_
        rintro e w6 ⟨rfl, hb6⟩
        try dsimp only
        have hb4 := (Below.refl W4.heap.size W4).drew.trans hb6
        have hS6 := hS4.below hb4
        have vr6 := (hb4.cell (p := ⟨bv, ov + nr, none⟩) hbvl).trans vr
        have fr6 := (hb4.frozen (p := ⟨bv, ov + nr, none⟩) hbvl).trans fr
        have HB6 := Lib.hid hb4
        clear hb6 hb4
        go_wp2_with fail
        refine ⟨⟨fun _ => ⟨⟨w6, HB6.out⟩, rfl⟩, fun _ => trivial⟩, ?_⟩
        refine wpAnyX_one 10 rfl (by kernel_rfl) (by kernel_rfl) ?_
        go_wp2_with fail
        refine ⟨⟨fun _ => ⟨⟨w6, HB6.out⟩, rfl⟩, fun _ => trivial⟩, ?_⟩
        refine wpAnyX_one 11 rfl (by kernel_rfl) (by kernel_rfl) ?_
        go_wp2_with fail
        refine ⟨⟨fun h => absurd (show true = false from h) (by decide), fun _ => trivial⟩, ?_⟩
        refine wpAnyX_done (by kernel_rfl) ?_
        go_wp2_with fail
        go_meet
        exact (hS6.setV nr hnr (readF3 t.f M.mem na)).toEnd (by simp) rfl (by simp [effF, effM, effT, stepT, HN.out])
      -- case 3
      · skip
        have hn2 := HEE.out.n2 (by simp)
        have hn2a : 0 ≤ inn ∧ inn ≤ p.c - 1 := hn2
        clear hn2
        obtain ⟨na, rfl⟩ : ∃ j : Nat, inn = j := ⟨inn.toNat, by omega⟩
        have hnl : na < M.mem.length := by have := HML.out; omega
        have hnl' : (na : Int) < M.mem.length := by omega
        have hna15 : (na : Int) ≤ 15 := by omega
        clear hn2a
        have hf3 : t.f.length < 3 := HE.out.st rfl
        obtain ⟨ii, hi, hiz0, hiz1, hiz2⟩ := info_parts infoSlot
        have l1 := World.block_lt_of_cell? W4 _ I1
        have l2 := World.block_lt_of_cell? W4 _ T2
        have P1 := fun q : Past W4 => Past.cell l1 I1 q
        have P2 := fun q : Past W4 => Past.cell l1 I3 q
        have P3 := fun q : Past W4 => Past.cell l2 T2 q
        have P4 := fun q : Past W4 => Past.cell hbvl vr q
        have hb5 := ((Below.refl W4.heap.size W4).alloc (Nat.le_refl _) (.cells #[.int .i64 na, .int .i64 xr] 106)).drew
        have HF5 := Lib.hid (ownsRow_below HX4.out.2.1 hb5)
        have HS5 := Lib.hid (hS4.below hb5)
        have HKN : Hid (∀ j u, ([.int .i64 na, .int .i64 xr] : List Value)[j]? = some u → (W4.alloc (.cells #[.int .i64 na, .int .i64 xr] 106)).drew.cell? ((⟨W4.heap.size, 0, none⟩ : Addr).add j) = some u) := Lib.hid (new_cells _ _ _)
        have HB5 := Lib.hid hb5
        have hsz0 : W0.heap.size + 2 ≤ W4.heap.size := by have := HX4.out.1.lt; omega
        clear hb5
        go_wp2_with fail
        refine wp_region_two 11 11 (fun w' => ∃ q : Past W4, w' = q.v) (fun _ => True) (by kernel_rfl) ?_
        refine wpAnyX_pass (C := (fun w' => ∃ q : Past W4, w' = q.v)) (some false) [true, true, true, true, true, true, true, true, true, true] rfl (by kernel_rfl) (fun _ _ t _ _ h => by cases t <;> exact h) ⟨fun _ => ⟨⟨W4.drew, (Below.refl _ _).drew⟩, rfl⟩, fun _ => trivial⟩ ?_
        simp only [keepOps]
        repeat (go_big_quiet_step (fail))
        refine wpQuiet_nil ?_
        clear P1 P2 P3 P4
        refine wpAnyX_one 10 rfl (by kernel_rfl) (by kernel_rfl) ?_
        go_wp2_with fail
        refine ⟨⟨fun _ => ⟨⟨_, HB5.out⟩, rfl⟩, fun _ => trivial⟩, ?_⟩
        refine wpAnyX_one 11 rfl (by kernel_rfl) (by kernel_rfl) ?_
        simp only [List.getElem_toArray, List.getElem_cons_succ, List.getElem_cons_zero]
        (at_builtin; refine wpList_append_kept _ rfl _ _ 71 rfl (W0.heap.size + 2) 106 ii (.agg #[.int .i64 0, .int .i64 0]) 2 16 Tryz.underlying71 hi hiz0 hiz1 hiz2 rfl (by decide) _ t.f.length (flc2 t.f) rfl HF5.out ⟨W4.heap.size, 0, none⟩ 1 1 [.int .i64 na, .int .i64 xr] rfl rfl HKN.out (by simp [Value.oneCell']) (by unfold maxLen; omega) (by omega) (by simp; omega) ?_)
        intro v7 w7 hown7 hg7 hat7 hold7
        obtain ⟨A7, c7, rfl⟩ := owns_form hown7
        have hfl : flc2 t.f ++ [.int .i64 na, .int .i64 xr] = flc2 (t.f ++ [⟨na, xr⟩]) := by rw [flc2_append]; rfl
        rw [hfl] at hown7
        obtain ⟨hS7, q7, hS8⟩ := HS5.out.append (y := ⟨na, xr⟩) hg7 HX4.out.2.2.1 hold7 (by rw [List.length_append]; exact hown7) hat7 (Nat.le_refl _) (by have := HL4.out; omega)
        obtain ⟨T7, G7⟩ := hS7.th.at_ 2 (x := .slice Af t.f.length cf) rfl
        have HS8 := Lib.hid hS8
        clear hS7 hS8 hown7 hg7 hat7 hold7 hfl
        go_wp2_with fail
        refine ⟨⟨fun h => absurd (show true = false from h) (by decide), fun _ => trivial⟩, ?_⟩
        refine wpAnyX_one 12 rfl (by kernel_rfl) (by kernel_rfl) ?_
        go_wp2_with fail
        refine ⟨⟨fun h => absurd (show true = false from h) (by decide), fun _ => trivial⟩, ?_⟩
        refine wpAnyX_one 13 rfl (by kernel_rfl) (by kernel_rfl) ?_
        go_wp2_with fail
        refine ⟨⟨fun h => absurd (show true = false from h) (by decide), fun _ => trivial⟩, ?_⟩
        refine wpAnyX_done (by kernel_rfl) ?_
        go_wp2_with fail
        go_meet
        have hpr := (put_room (a := na) (x := xr) (thOk_parts HTH.out).2.2.1 hf3 (by omega) (inB_of (valsI HTH.out nr xr HXX.out.1))).1
        exact HS8.out.toEnd rfl rfl (by simp [effF, effM, effT, HG.out.1]; simp [stepT, HN.out, hpr])
      -- case 4
      · go_wp2_with fail
        go_meet
        exact hS4.toEnd rfl rfl (by simp [effF, effM, effT, stepT, HN.out])
      -- case 5
      · skip
        have hn2 := HEE.out.n2 (by simp)
        have hn2a : 0 ≤ inn ∧ inn ≤ p.c - 1 := hn2
        clear hn2
        obtain ⟨na, rfl⟩ : ∃ j : Nat, inn = j := ⟨inn.toNat, by omega⟩
        have hnl : na < M.mem.length := by have := HML.out; omega
        have hnl' : (na : Int) < M.mem.length := by omega
        obtain ⟨u, hu⟩ : ∃ u, M.mem[na]? = some u := ⟨_, List.getElem?_eq_getElem hnl⟩
        obtain ⟨b', o', c', he, -, lbc, hatm, -, -⟩ := hS4.mb.mem.open_ hml0
        injection he with he1 _ he3
        injection he1 with he1
        injection he1 with he1 he2
        subst he1 he2 he3
        obtain ⟨mu, fu⟩ := hatm na (.int .i64 u) (by simp [ints, hu])
        have HU := Lib.hid hu
        clear hatm hu hn2a
        obtain ⟨n0, -⟩ := hS4.mb.box.at_ 0 (x := .slice (some ⟨bc, oc, none⟩) M.mem.length cc) rfl
        have l1 := World.block_lt_of_cell? W4 _ I1
        have l0 := World.block_lt_of_cell? W4 _ n0
        have Q1 := fun q : Past W4 => Past.cell l1 I1 q
        have Q2 := fun q : Past W4 => Past.cell l1 I3 q
        have Q3 := fun q : Past W4 => Past.cell hbvl vr q
        have Q4 := fun q : Past W4 => Past.cell l0 n0 q
        have Q5 := fun q : Past W4 => Past.cell lbc mu q
        by_cases h0 : u = xr
        · have e0 : (u == xr) = true := by simp [h0]
          have HE0 := Lib.hid h0
          clear h0
          have l1 := World.block_lt_of_cell? W4 _ I1
          have l0 := World.block_lt_of_cell? W4 _ n0
          have P1 := fun q : Past W4 => Past.cell l1 I2 q
          have P2 := fun q : Past W4 => Past.cell l1 I3 q
          have P3 := fun q : Past W4 => Past.cell hbvl vs1 q
          have P4 := fun q : Past W4 => Past.cell l0 n0 q
          go_wp2_with fail
          refine wp_region_two 12 12 (fun w' => ∃ q : Past W4, w' = q.v) (fun _ => True) (by kernel_rfl) ?_
          refine wpAnyX_pass (C := (fun w' => ∃ q : Past W4, w' = q.v)) (some false) [true, true, true, true, true, true, true, true, true, true, true, true] rfl (by kernel_rfl) (fun _ _ t _ _ h => by cases t <;> exact h) ⟨fun _ => ⟨⟨W4.drew, (Below.refl _ _).drew⟩, rfl⟩, fun _ => trivial⟩ ?_
          simp only [keepOps]
          repeat (go_big_quiet_step (fail))
          refine wpQuiet_nil ?_
          clear Q1 Q2 Q3 Q4 Q5
          refine wpAnyX_one 12 rfl (by kernel_rfl) (by kernel_rfl) ?_
          go_wp2_with fail
          refine ⟨⟨fun h => absurd (show true = false from h) (by decide), fun _ => trivial⟩, ?_⟩
          refine wpAnyX_done (by kernel_rfl) ?_
          go_wp2_with fail
          refine wp_region_two 11 11 (fun w' => ∃ q : Past W4, w' = q.v) (fun _ => True) (by kernel_rfl) ?_
          refine wpAnyX_pass (C := (fun w' => ∃ q : Past W4, w' = q.v)) (some false) [true, true, true, true, true, true, true, true, true, true, true] rfl (by kernel_rfl) (fun _ _ t _ _ h => by cases t <;> exact h) ⟨fun _ => ⟨⟨W4.drew.drew, (Below.refl _ _).drew.drew⟩, rfl⟩, fun _ => trivial⟩ ?_
          simp only [keepOps]
          repeat (go_big_quiet_step (fail))
          refine wpQuiet_nil ?_
          clear P1 P2 P3 P4
          refine wpAnyX_one 11 rfl (by kernel_rfl) (by kernel_rfl) ?_
          go_wp2_with fail
          refine ⟨⟨fun h => absurd (show true = false from h) (by decide), fun _ => trivial⟩, ?_⟩
          refine wpAnyX_done (by kernel_rfl) ?_
          have hS5 := hS4.setM na hnl xs
          obtain ⟨vr5, fr5⟩ : (W4.setCell ⟨bc, oc + na, none⟩ (.int .i64 xs)).cell? ⟨bv, ov + nr, none⟩ = some (.int .i64 xr) ∧ (W4.setCell ⟨bc, oc + na, none⟩ (.int .i64 xs)).frozen? ⟨bv, ov + nr, none⟩ = false := by
            obtain ⟨bv', ov', cv', f', qa', qb', hp', hq', -, -, -, hat⟩ := hS5.mb.valAt ht (by have := HL4.out; omega)
            rw [hp] at hp'
            injection hp' with hp'
            injection hp' with e1 e2
            injection e1 with e1 _ e3
            injection e1 with e1
            injection e1 with e1 e4
            subst e1 e4 e3
            exact hat nr xr HXX.out.1
          have kin5 := HX4.out.1.far (p := ⟨bc, oc + na, none⟩) (by show w1.heap.size + 2 ≠ bc; omega) (.int .i64 xs)
          obtain ⟨J1, -⟩ := kin5.at_ 1 (x := .int .i64 nr) rfl
          clear kin5
          go_wp2_with fail
          go_meet
          first
            | exact (hS5.setV nr hnr 1).toEnd (by simp) (by simp) (by simp [effF, effM, effT, HG.out.1, HG.out.2, List.getD_eq_getElem?_getD, HU.out, HE0.out]; simp [stepT, HN.out])
            | exact ((hS5.setV nr hnr 1).below (Below.refl _ _).drew).toEnd (by simp) (by simp) (by simp [effF, effM, effT, HG.out.1, HG.out.2, List.getD_eq_getElem?_getD, HU.out, HE0.out]; simp [stepT, HN.out])
            | exact ((hS5.setV nr hnr 1).below (Below.refl _ _).drew.drew).toEnd (by simp) (by simp) (by simp [effF, effM, effT, HG.out.1, HG.out.2, List.getD_eq_getElem?_getD, HU.out, HE0.out]; simp [stepT, HN.out])
            | exact ((hS5.setV nr hnr 1).below (Below.refl _ _).drew.drew.drew).toEnd (by simp) (by simp) (by simp [effF, effM, effT, HG.out.1, HG.out.2, List.getD_eq_getElem?_getD, HU.out, HE0.out]; simp [stepT, HN.out])
        · have e0 : (u == xr) = false := by simp [h0]
          have HE0 := Lib.hid h0
          clear h0
          go_wp2_with fail
          refine wp_region_two 12 12 (fun w' => ∃ q : Past W4, w' = q.v) (fun _ => True) (by kernel_rfl) ?_
          refine wpAnyX_pass (C := (fun w' => ∃ q : Past W4, w' = q.v)) (some false) [true, true, true, true, true, true, true, true, true, true, true, true] rfl (by kernel_rfl) (fun _ _ t _ _ h => by cases t <;> exact h) ⟨fun _ => ⟨⟨W4.drew, (Below.refl _ _).drew⟩, rfl⟩, fun _ => trivial⟩ ?_
          simp only [keepOps]
          repeat (go_big_quiet_step (fail))
          refine wpQuiet_nil ?_
          clear Q1 Q2 Q3 Q4 Q5
          refine wpAnyX_one 12 rfl (by kernel_rfl) (by kernel_rfl) ?_
          go_wp2_with fail
          refine ⟨⟨fun h => absurd (show true = false from h) (by decide), fun _ => trivial⟩, ?_⟩
          refine wpAnyX_done (by kernel_rfl) ?_
          go_wp2_with fail
          go_meet
          first
            | exact (hS4.setV nr hnr 0).toEnd (by simp) rfl (by simp [effF, effM, effT, HG.out.1, HG.out.2, List.getD_eq_getElem?_getD, HU.out, HE0.out]; simp [stepT, HN.out])
            | exact ((hS4.setV nr hnr 0).below (Below.refl _ _).drew).toEnd (by simp) rfl (by simp [effF, effM, effT, HG.out.1, HG.out.2, List.getD_eq_getElem?_getD, HU.out, HE0.out]; simp [stepT, HN.out])
            | exact ((hS4.setV nr hnr 0).below (Below.refl _ _).drew.drew).toEnd (by simp) rfl (by simp [effF, effM, effT, HG.out.1, HG.out.2, List.getD_eq_getElem?_getD, HU.out, HE0.out]; simp [stepT, HN.out])
            | exact ((hS4.setV nr hnr 0).below (Below.refl _ _).drew.drew.drew).toEnd (by simp) rfl (by simp [effF, effM, effT, HG.out.1, HG.out.2, List.getD_eq_getElem?_getD, HU.out, HE0.out]; simp [stepT, HN.out])
      -- case 6
      · by_cases hz : xr = 0
        · subst hz
          go_wp2_with fail
          go_meet
          exact (hS4.setPc inn).toEnd rfl rfl (by simp [effF, effM, effT, HG.out.1]; simp [stepT, HN.out])
        · have hb : (xr == 0) = false := by simp [hz]
          have HZ := Lib.hid hz
          clear hz
          go_wp2_with fail
          go_meet
          exact hS4.toEnd rfl rfl (by simp [effF, effM, effT, HG.out.1, HZ.out]; simp [stepT, HN.out])
      -- case 7
      · skip
        have hn2 := HEE.out.n2 (by simp)
        have hn2a : 0 ≤ inn ∧ inn ≤ p.c - 1 := hn2
        clear hn2
        obtain ⟨na, rfl⟩ : ∃ j : Nat, inn = j := ⟨inn.toNat, by omega⟩
        have hnl : na < M.mem.length := by have := HML.out; omega
        have hnl' : (na : Int) < M.mem.length := by omega
        obtain ⟨u, hu⟩ : ∃ u, M.mem[na]? = some u := ⟨_, List.getElem?_eq_getElem hnl⟩
        obtain ⟨b', o', c', he, -, lbc, hatm, -, -⟩ := hS4.mb.mem.open_ hml0
        injection he with he1 _ he3
        injection he1 with he1
        injection he1 with he1 he2
        subst he1 he2 he3
        obtain ⟨mu, fu⟩ := hatm na (.int .i64 u) (by simp [ints, hu])
        have HU := Lib.hid hu
        clear hatm hu hn2a
        obtain ⟨n0, -⟩ := hS4.mb.box.at_ 0 (x := .slice (some ⟨bc, oc, none⟩) M.mem.length cc) rfl
        have l1 := World.block_lt_of_cell? W4 _ I1
        have l0 := World.block_lt_of_cell? W4 _ n0
        have P1 := fun q : Past W4 => Past.cell l1 I2 q
        have P2 := fun q : Past W4 => Past.cell l1 I3 q
        have P3 := fun q : Past W4 => Past.cell hbvl vs1 q
        have P4 := fun q : Past W4 => Past.cell l0 n0 q
        go_wp2_with fail
        refine wp_region_two 11 11 (fun w' => ∃ q : Past W4, w' = q.v) (fun _ => True) (by kernel_rfl) ?_
        refine wpAnyX_pass (C := (fun w' => ∃ q : Past W4, w' = q.v)) (some false) [true, true, true, true, true, true, true, true, true, true, true] rfl (by kernel_rfl) (fun _ _ t _ _ h => by cases t <;> exact h) ⟨fun _ => ⟨⟨W4.drew, (Below.refl _ _).drew⟩, rfl⟩, fun _ => trivial⟩ ?_
        simp only [keepOps]
        repeat (go_big_quiet_step (fail))
        refine wpQuiet_nil ?_
        clear P1 P2 P3 P4
        refine wpAnyX_one 11 rfl (by kernel_rfl) (by kernel_rfl) ?_
        go_wp2_with fail
        refine ⟨⟨fun h => absurd (show true = false from h) (by decide), fun _ => trivial⟩, ?_⟩
        refine wpAnyX_done (by kernel_rfl) ?_
        have hS5 := hS4.setM na hnl xs
        obtain ⟨vr5, fr5⟩ : (W4.setCell ⟨bc, oc + na, none⟩ (.int .i64 xs)).cell? ⟨bv, ov + nr, none⟩ = some (.int .i64 xr) ∧ (W4.setCell ⟨bc, oc + na, none⟩ (.int .i64 xs)).frozen? ⟨bv, ov + nr, none⟩ = false := by
          obtain ⟨bv', ov', cv', f', qa', qb', hp', hq', -, -, -, hat⟩ := hS5.mb.valAt ht (by have := HL4.out; omega)
          rw [hp] at hp'
          injection hp' with hp'
          injection hp' with e1 e2
          injection e1 with e1 _ e3
          injection e1 with e1
          injection e1 with e1 e4
          subst e1 e4 e3 e2
          exact hat nr xr HXX.out.1
        have kin5 := HX4.out.1.far (p := ⟨bc, oc + na, none⟩) (by show w1.heap.size + 2 ≠ bc; omega) (.int .i64 xs)
        obtain ⟨J1, -⟩ := kin5.at_ 1 (x := .int .i64 nr) rfl
        clear kin5
        go_wp2_with fail
        go_meet
        exact ((hS5.setV nr hnr u).below (Below.refl _ _).drew).toEnd (by simp) (by simp) (by simp [effF, effM, effT, HG.out.2, List.getD_eq_getElem?_getD, HU.out]; simp [stepT, HN.out])
      -- case 8
      · skip
        have hvv := valsI HTH.out
        have hx1 := hvv nr xr HXX.out.1
        have hx2 := hvv ns xs HXX.out.2
        have hwr : IntKind.i64.wrap (xr - xs) = xr - xs := IntWalk.i64_in _ (by omega)
        clear hvv hx1 hx2
        have l1 := World.block_lt_of_cell? W4 _ I1
        have P1 := fun q : Past W4 => Past.cell l1 I1 q
        have P2 := fun q : Past W4 => Past.cell l1 I2 q
        have P3 := fun q : Past W4 => Past.cell hbvl vr q
        have P4 := fun q : Past W4 => Past.cell hbvl vs1 q
        go_wp2_with fail
        refine wp_region_two 16 16 (fun w' => ∃ q : Past W4, w' = q.v) (fun _ => True) (by kernel_rfl) ?_
        refine wpAnyX_pass (C := (fun w' => ∃ q : Past W4, w' = q.v)) (some false) [true, true, true, true, true, true, true, true, true, true, true, true, true, true, false, false] rfl (by kernel_rfl) (fun _ _ t _ _ h => by cases t <;> exact h) ⟨fun _ => ⟨⟨W4.drew, (Below.refl _ _).drew⟩, rfl⟩, fun _ => trivial⟩ ?_
        simp only [keepOps]
        repeat (go_big_quiet_step (fail))
        refine wpQuiet_nil ?_
        clear P1 P2 P3 P4
        refine wpAnyX_one 14 rfl (by kernel_rfl) (by kernel_rfl) ?_
        go_wp2_with fail
        refine (spec_Clamp _ _).mono ?_
        rintro e w6 ⟨rfl, rfl⟩
        try dsimp only
        go_wp2_with fail
        refine ⟨⟨fun _ => ⟨⟨W4.drew, (Below.refl _ _).drew⟩, rfl⟩, fun _ => trivial⟩, ?_⟩
        refine wpAnyX_one 15 rfl (by kernel_rfl) (by kernel_rfl) ?_
        go_wp2_with fail
        refine ⟨⟨fun _ => ⟨⟨W4.drew, (Below.refl _ _).drew⟩, rfl⟩, fun _ => trivial⟩, ?_⟩
        refine wpAnyX_one 16 rfl (by kernel_rfl) (by kernel_rfl) ?_
        go_wp2_with fail
        refine ⟨⟨fun h => absurd (show true = false from h) (by decide), fun _ => trivial⟩, ?_⟩
        refine wpAnyX_done (by kernel_rfl) ?_
        go_wp2_with fail
        go_meet
        exact ((hS4.setV nr hnr (clampF (xr - xs))).below (Below.refl _ _).drew).toEnd (by simp) rfl (by simp [effF, effM, effT, HG.out.1, HG.out.2]; simp [stepT, HN.out])
    case rest =>
      obtain ⟨M1, t1, pc, A', nA, cA, f', qa', qb, qb', x, hM1, ht1, hp1, hq1, hl1, hl2, kt1, hO1, hd1, hy1, hy2, krN, kvN, hBN, hres, hlt1⟩ := hcut
      have hkl1 := hkl'
      obtain ⟨s0, s1, s2, r0, r1, r2⟩ := hM1.cells ht1 hp1
      obtain ⟨A2, c2, he2, -⟩ := (hM1.ths.buf ht1 hp1 hq1).slice
      try simp only at he2
      subst he2
      obtain ⟨n0, -⟩ := hM1.box.at_ 0 (x := .slice (some ⟨bc, oc, none⟩) M.mem.length cc) rfl
      have hbx := hM1.box
      rw [hl1] at hbx
      obtain ⟨n1, -⟩ := hbx.at_ 1 (x := .slice (some ⟨bT, oT, none⟩) M.ths.length cT) rfl
      obtain ⟨c0', f0'⟩ := kt1.at_ 0 (x := .int .i64 pc) rfl
      obtain ⟨c1', f1'⟩ := kt1.at_ 1 (x := .slice (some ⟨bv, ov, none⟩) t.v.length cv) rfl
      obtain ⟨c2', f2'⟩ := kt1.at_ 2 (x := .slice A' nA cA) rfl
      obtain ⟨mv0, -⟩ := kvN.at_ 0 (x := .int .i64 k) rfl
      have hend := do_end (w := w) (gr := w.heap.size + 1 + 1 + 1) (x := x) pc hM1 ht1 hp1 hq1 hO1 hd1 hy2 hy1 krN hBN (by omega)
      rw [← hres, hl1] at hend
      obtain ⟨hg, hr, bs, hown, hbs, hBe⟩ := hend
      obtain ⟨g0, -⟩ := hg.at_ 0 (x := .slice (some ⟨bc, oc, none⟩) M.mem.length cc) rfl
      obtain ⟨g1, -⟩ := hg.at_ 1 (x := .slice (some ⟨bT, oT, none⟩) M.ths.length cT) rfl
      obtain ⟨q0, u0⟩ := hr.at_ 0 (x := .slice none 0 0) rfl
      obtain ⟨q1, u1⟩ := hr.at_ 1 (x := .slice none 0 0) rfl
      have HEND := Lib.hid (And.intro hown (And.intro hbs hBe))
      clear hown hbs hBe hg hr hM1 hO1 kt1 krN kvN hBN hbx hres
      go_wp2_with fail
      exact bodyPost_ret (v := .agg #[.slice (some ⟨bc, oc, none⟩) M.mem.length cc, .slice (some ⟨bT, oT, none⟩) M.ths.length cT]) (by simp [results, Tryz.results37, go_sem, q0, q1, u0, u1]) rfl
        (by rw [HX.out]; exact ⟨_, _, _, rfl, HEND.out.1, HEND.out.2.1, HEND.out.2.2⟩)
end Go.Proofs.YtiflooopfpcelaaGreat
