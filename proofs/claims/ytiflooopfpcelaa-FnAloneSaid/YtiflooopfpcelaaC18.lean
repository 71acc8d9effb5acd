/- Contract of impl.DoMove. Condition: the program and the machine can be read; lengths that a law bounds. -/
import Derived.Test.YtiflooopfpcelaaK3
import Derived.Test.YtiflooopfpcelaaK1
import Derived.Test.YtiflooopfpcelaaC9
namespace Go.Proofs.Ytiflooopfpcelaa
set_option maxRecDepth 20000
set_option linter.unusedSimpArgs false
set_option linter.unusedVariables false
open Go.ChangeShapes Go.WideShapes Go.ChangeAt Go.RowKit
set_option linter.unusedVariables false
/-- a machine of its own is laid into a box -/
theorem OwnMa.toMB {W : World} {mv tv : Value} {M : Ma} {bs : List Nat} {gm : Nat} (h : OwnMa W mv tv M bs) (hn : 0 < M.ths.length) (hbox : Bk W gm #[mv, tv] 41) (hg : gm ∉ bs) :
    ∃ bT oT c L, tv = .slice (some ⟨bT, oT, none⟩) M.ths.length c ∧ MBx W gm bT oT c M L ∧ ∀ b ∈ L, b = gm ∨ b ∈ bs := by
  obtain ⟨bm, bt, h1, ⟨vs, qs, bt0, hv, hq, hO, rfl⟩, h3, rfl⟩ := h
  have hr : Own W tv 3 M.ths.length (thCs M.ths vs) bt0 := hO.head
  obtain ⟨bT, oT, c, rfl, rfl, -, -, -, -⟩ := hr.open_ hn
  have he : blks (⟨.slice (some ⟨bT, oT, none⟩) M.ths.length c, 3, M.ths.length, thCs M.ths vs, [bT]⟩ :: thRows M.ths vs qs) = tblk M.ths vs qs bT := tblk_row _ _ _ _ _ _ _
  rw [he] at h3 hg
  refine ⟨bT, oT, c, _, rfl, ⟨mv, vs, qs, bm, ⟨hbox, h1, ⟨hv, hq, hO⟩, h3, fun hm => hg (by simp [hm]), fun hm => hg (by simp [hm])⟩, rfl⟩, fun b hb => ?_⟩
  rw [he]
  simpa using hb
theorem MBx.own {W : World} {gm bT oT c : Nat} {M : Ma} {L : List Nat} (h : MBx W gm bT oT c M L) :
    ∃ mv bs, Bk W gm #[mv, .slice (some ⟨bT, oT, none⟩) M.ths.length c] 41 ∧ OwnMa W mv (.slice (some ⟨bT, oT, none⟩) M.ths.length c) M bs ∧ (∀ b ∈ bs, b ∈ L) ∧ gm ∉ bs := by
  obtain ⟨mv, vs, qs, bm, h, rfl⟩ := h
  refine ⟨mv, bm ++ tblk M.ths vs qs bT, h.box, ⟨bm, _, h.mem, ⟨vs, qs, [bT], h.ths.lv, h.ths.lq, h.ths.own, rfl⟩, fun b hb hm => h.d1 b hb (by rwa [tblk_row] at hm), by rw [tblk_row]⟩, fun b hb => by simp at hb ⊢; exact .inr hb, fun hm => ?_⟩
  rcases List.mem_append.1 hm with h' | h'
  · exact h.d2.1 h'
  · exact h.d2.2 h'
set_option maxHeartbeats 6400000 in
theorem impl_DoMove (pv mv tv : Value) (p : Pr) (M : Ma) (m : Mv) (w : World) (h : RdSS w pv p.x) (hm : RdMa w mv tv M) (hsz : totMa M ≤ 16777215) :
    Calls Try.prog 38 #[.agg #[.int .i64 p.c, pv], .agg #[mv, tv], .agg #[.int .i64 m.t, .bool m.d]] w (RetMaB (doF p M m) (canMv p M m) w) := by
  obtain ⟨mt, md⟩ := m
  obtain ⟨A0, c0, B0, d0, rfl, rfl, -⟩ := id hm.slices
  obtain ⟨vsp, ⟨Ap, cp, rfl, -, hnp, hcp, hrp⟩, hin⟩ := id h
  unfold maxLen at hcp
  have kp := (((Bk.new w #[.int .i64 p.c, .slice Ap p.x.length cp] 36).alloc (.cells #[.slice A0 M.mem.length c0, .slice B0 M.ths.length d0] 41)).alloc (.cells #[.int .i64 mt, .bool md] 54)).alloc (.cells #[.slice none 0 0, .slice none 0 0] 41)
  have km := ((Bk.new (w.alloc (.cells #[.int .i64 p.c, .slice Ap p.x.length cp] 36)) #[.slice A0 M.mem.length c0, .slice B0 M.ths.length d0] 41).alloc (.cells #[.int .i64 mt, .bool md] 54)).alloc (.cells #[.slice none 0 0, .slice none 0 0] 41)
  have kv := (Bk.new ((w.alloc (.cells #[.int .i64 p.c, .slice Ap p.x.length cp] 36)).alloc (.cells #[.slice A0 M.mem.length c0, .slice B0 M.ths.length d0] 41)) #[.int .i64 mt, .bool md] 54).alloc (.cells #[.slice none 0 0, .slice none 0 0] 41)
  have kr := Bk.new (((w.alloc (.cells #[.int .i64 p.c, .slice Ap p.x.length cp] 36)).alloc (.cells #[.slice A0 M.mem.length c0, .slice B0 M.ths.length d0] 41)).alloc (.cells #[.int .i64 mt, .bool md] 54)) #[.slice none 0 0, .slice none 0 0] 41
  have hB0 := ((((Below.refl w.heap.size w).alloc (Nat.le_refl _) (.cells #[.int .i64 p.c, .slice Ap p.x.length cp] 36)).alloc (by simp) (.cells #[.slice A0 M.mem.length c0, .slice B0 M.ths.length d0] 41)).alloc (by simp; omega) (.cells #[.int .i64 mt, .bool md] 54)).alloc (by simp; omega) (.cells #[.slice none 0 0, .slice none 0 0] 41)
  obtain ⟨W0, hW0⟩ : ∃ W0, W0 = (((w.alloc (.cells #[.int .i64 p.c, .slice Ap p.x.length cp] 36)).alloc (.cells #[.slice A0 M.mem.length c0, .slice B0 M.ths.length d0] 41)).alloc (.cells #[.int .i64 mt, .bool md] 54)).alloc (.cells #[.slice none 0 0, .slice none 0 0] 41) := ⟨_, rfl⟩
  rw [← hW0] at kp km kv kr hB0
  simp only [World.size_alloc] at km kv kr
  have HW := Lib.hid hW0
  obtain ⟨y0, -⟩ := km.at_ 0 (x := .slice A0 M.mem.length c0) rfl
  obtain ⟨y1, -⟩ := km.at_ 1 (x := .slice B0 M.ths.length d0) rfl
  have HR := Lib.hid h
  have HM := Lib.hid hm
  have HIN := Lib.hid hin
  have HRP := Lib.hid hrp
  have HB0 := Lib.hid hB0
  clear hW0 hB0 h hm hin hrp
  go_enter Try.func38, Try.ntmps38
  go_wp2_with fail
  rw [← HW.out]
  try go_wp2_with fail
  refine (copyMachine _ _ M _ (HM.out.below HB0.out) hsz).mono ?_
  rintro e w1 ⟨mv1, tv1, bs1, rfl, ho1, hlo1, hb1⟩
  obtain ⟨A1, c1, B1, d1, rfl, rfl⟩ := ho1.slices
  have kp1 := (kp.below hb1 kp.lt).alloc (.cells #[.slice A1 M.mem.length c1, .slice B1 M.ths.length d1] 41)
  have km1 := (km.below hb1 km.lt).alloc (.cells #[.slice A1 M.mem.length c1, .slice B1 M.ths.length d1] 41)
  have kv1 := (kv.below hb1 kv.lt).alloc (.cells #[.slice A1 M.mem.length c1, .slice B1 M.ths.length d1] 41)
  have kr1 := (kr.below hb1 kr.lt).alloc (.cells #[.slice A1 M.mem.length c1, .slice B1 M.ths.length d1] 41)
  have kn1 := Bk.new w1 #[.slice A1 M.mem.length c1, .slice B1 M.ths.length d1] 41
  have hB1 := (HB0.out.trans (hb1.mono HB0.out.size)).alloc (HB0.out.trans (hb1.mono HB0.out.size)).size (.cells #[.slice A1 M.mem.length c1, .slice B1 M.ths.length d1] 41)
  have hoa := ho1.below ((Below.refl _ _).alloc (Nat.le_refl _) (.cells #[.slice A1 M.mem.length c1, .slice B1 M.ths.length d1] 41))
  have hi1 := ho1.lt
  have hsz1 := hb1.size
  have hr0 := kr.lt
  have HB1 := Lib.hid hB1
  have HHM : Hid (RdMa (w1.alloc (.cells #[.slice A1 M.mem.length c1, .slice B1 M.ths.length d1] 41)) (.slice A0 M.mem.length c0) (.slice B0 M.ths.length d0) M) := Lib.hid (HM.out.below HB1.out)
  obtain ⟨p0, -⟩ := kp1.at_ 0 (x := .int .i64 p.c) rfl
  obtain ⟨p1, -⟩ := kp1.at_ 1 (x := .slice Ap p.x.length cp) rfl
  obtain ⟨v0, -⟩ := kv1.at_ 0 (x := .int .i64 mt) rfl
  obtain ⟨v1, -⟩ := kv1.at_ 1 (x := .bool md) rfl
  obtain ⟨n0, -⟩ := km1.at_ 0 (x := .slice A0 M.mem.length c0) rfl
  obtain ⟨n1, -⟩ := km1.at_ 1 (x := .slice B0 M.ths.length d0) rfl
  clear y0 y1 kp km kv kr hb1 ho1 hB1
  have hC := impl_CanMove _ _ _ p M ⟨mt, md⟩ _ (HR.out.below HB1.out) HHM.out
  cases hcm : canMv p M ⟨mt, md⟩
  · rw [hcm] at hC
    have HC := Lib.hid hC
    have HCM := Lib.hid hcm
    have HD : Hid (doF p M ⟨mt, md⟩ = M) := Lib.hid (by simp [doF, hcm])
    clear hC hcm
    go_wp2_with fail
    refine HC.out.mono ?_
    rintro e w2 ⟨rfl, hb2⟩
    have kn2 := kn1.below hb2 kn1.lt
    have kr2 := kr1.below hb2 kr1.lt
    obtain ⟨z0, -⟩ := kn2.at_ 0 (x := .slice A1 M.mem.length c1) rfl
    obtain ⟨z1, -⟩ := kn2.at_ 1 (x := .slice B1 M.ths.length d1) rfl
    obtain ⟨q0, e0⟩ := kr2.at_ 0 (x := .slice none 0 0) rfl
    obtain ⟨q1, e1⟩ := kr2.at_ 1 (x := .slice none 0 0) rfl
    have kf := (kr2.set_ 0 (.slice A1 M.mem.length c1)).set_ 1 (.slice B1 M.ths.length d1)
    obtain ⟨r0, -⟩ := kf.at_ 0 (x := .slice A1 M.mem.length c1) rfl
    obtain ⟨r1, -⟩ := kf.at_ 1 (x := .slice B1 M.ths.length d1) rfl
    have hof := ((hoa.below hb2).far (b := w.heap.size + 1 + 1 + 1) (k := 0) (u := .slice A1 M.mem.length c1) fun x hx => by have := hlo1 x hx; omega).far (b := w.heap.size + 1 + 1 + 1) (k := 1) (u := .slice B1 M.ths.length d1) fun x hx => by have := hlo1 x hx; omega
    have hBf := ((HB1.out.trans (hb2.mono HB1.out.size)).setCell (p := ⟨w.heap.size + 1 + 1 + 1, 0, none⟩) (by show w.heap.size ≤ w.heap.size + 1 + 1 + 1; omega) (.slice A1 M.mem.length c1)).setCell (p := ⟨w.heap.size + 1 + 1 + 1, 1, none⟩) (by show w.heap.size ≤ w.heap.size + 1 + 1 + 1; omega) (.slice B1 M.ths.length d1)
    have HE := Lib.hid (And.intro hof hBf)
    have HLO := Lib.hid hlo1
    clear kn2 kr2 kf hof hBf hoa hb2 hlo1
    go_wp2_with fail
    exact bodyPost_ret (v := .tuple #[.agg #[.slice A1 M.mem.length c1, .slice B1 M.ths.length d1], .bool false]) (by simp [results, Try.results38, go_sem, r0, r1]) rfl
      ⟨_, _, bs1, by rw [HCM.out], by rw [HD.out]; exact HE.out.1, fun b hb => by have := HLO.out b hb; have := HB0.out.size; omega, HE.out.2⟩
  · obtain ⟨k, t, code, hk, hok, ht, hcd, hx⟩ := can_parts hcm
    simp only at hk hx
    subst hk
    rw [hcm] at hC
    have HC := Lib.hid hC
    have HCM := Lib.hid hcm
    have HD : Hid (doF p M ⟨k, md⟩ = if md then drainF M k t else execF M k t code) := Lib.hid (by simp [doF, hcm, doAt_eq ht hcd])
    have hkl := (List.getElem?_eq_some_iff.1 ht).1
    have hth := machOk_th hok ht hcd
    have HTH := Lib.hid hth
    have hfl : t.f.length ≤ 3 := bufOk_len (thOk_parts hth).2.2.1
    have hml : M.mem.length ≤ 16777215 := by unfold totMa at hsz; omega
    have HOK := Lib.hid hok
    clear hC hcm hth hok
    go_wp2_with fail
    refine HC.out.mono ?_
    rintro e w2 ⟨rfl, hb2⟩
    have kn2 := kn1.below hb2 kn1.lt
    have hg1 : w1.heap.size ∉ bs1 := fun h => by have := hi1 _ h; omega
    obtain ⟨bT, oT, cT, L, htv, hMx, hL⟩ := (hoa.below hb2).toMB (by omega) kn2 hg1
    injection htv with htv1 _ htv3
    subst htv1 htv3
    obtain ⟨mvx, vs, qs, bm, hMB, hLL⟩ := id hMx
    have hcore := impl_core w1.heap.size bT oT d1 k mvx M vs qs bm w2 hMB hkl
    have HCO := Lib.hid hcore
    obtain ⟨x0, -⟩ := (kv1.below hb2 kv1.lt).at_ 0 (x := .int .i64 k) rfl
    have HMX := Lib.hid hMx
    clear hcore hMB hLL hMx
    go_wp2_with fail
    refine HCO.out.mono ?_
    rintro e w3 ⟨rfl, hb3⟩
    unfold coreV
    have hb23 := hb2.trans (hb3.mono hb2.size)
    have kp3 := (kp1.below hb23 kp1.lt).alloc (.cells #[.pointer (some ⟨bT, oT + k * 3, none⟩), .pointer (some ⟨w1.heap.size, 0, none⟩)] 123)
    have kv3 := (kv1.below hb23 kv1.lt).alloc (.cells #[.pointer (some ⟨bT, oT + k * 3, none⟩), .pointer (some ⟨w1.heap.size, 0, none⟩)] 123)
    have kr3 := (kr1.below hb23 kr1.lt).alloc (.cells #[.pointer (some ⟨bT, oT + k * 3, none⟩), .pointer (some ⟨w1.heap.size, 0, none⟩)] 123)
    have kc3 := Bk.new w3 #[.pointer (some ⟨bT, oT + k * 3, none⟩), .pointer (some ⟨w1.heap.size, 0, none⟩)] 123
    have hA3 := (Below.refl w3.heap.size w3).alloc (Nat.le_refl _) (.cells #[.pointer (some ⟨bT, oT + k * 3, none⟩), .pointer (some ⟨w1.heap.size, 0, none⟩)] 123)
    have hB3 := (HB1.out.trans (hb23.mono HB1.out.size)).trans (hA3.mono (HB1.out.trans (hb23.mono HB1.out.size)).size)
    have hMx3 := (HMX.out.below hb3).below hA3
    have HM3 := Lib.hid hMx3
    have HB3 := Lib.hid hB3
    have HLL := Lib.hid hL
    have HR3 := Lib.hid (HR.out.below hB3)
    obtain ⟨u0, -⟩ := kv3.at_ 0 (x := .int .i64 k) rfl
    obtain ⟨u1, -⟩ := kv3.at_ 1 (x := .bool md) rfl
    obtain ⟨s0, -⟩ := kc3.at_ 0 (x := .pointer (some ⟨bT, oT + k * 3, none⟩)) rfl
    obtain ⟨s1, -⟩ := kc3.at_ 1 (x := .pointer (some ⟨w1.heap.size, 0, none⟩)) rfl
    have hs23 := hb23.size
    simp only [World.size_alloc] at hs23
    have HEND : Hid (∀ (M' : Ma) (w4 : World) (L' : List Nat), M'.ths.length = M.ths.length → MBx w4 w1.heap.size bT oT d1 M' L' → Only L (w3.alloc (.cells #[.pointer (some ⟨bT, oT + k * 3, none⟩), .pointer (some ⟨w1.heap.size, 0, none⟩)] 123)) w4 → (∀ b ∈ L', b ∈ L ∨ w3.heap.size + 1 ≤ b) →
      ∃ Am cm bs4, Bk w4 w1.heap.size #[.slice Am M'.mem.length cm, .slice (some ⟨bT, oT, none⟩) M.ths.length d1] 41 ∧ Bk w4 (w.heap.size + 1 + 1 + 1) #[.slice none 0 0, .slice none 0 0] 41 ∧
        OwnMa ((w4.setCell ⟨w.heap.size + 1 + 1 + 1, 0, none⟩ (.slice Am M'.mem.length cm)).setCell ⟨w.heap.size + 1 + 1 + 1, 1, none⟩ (.slice (some ⟨bT, oT, none⟩) M.ths.length d1)) (.slice Am M'.mem.length cm) (.slice (some ⟨bT, oT, none⟩) M.ths.length d1) M' bs4 ∧ (∀ b ∈ bs4, w.heap.size ≤ b) ∧
        Below w.heap.size w ((w4.setCell ⟨w.heap.size + 1 + 1 + 1, 0, none⟩ (.slice Am M'.mem.length cm)).setCell ⟨w.heap.size + 1 + 1 + 1, 1, none⟩ (.slice (some ⟨bT, oT, none⟩) M.ths.length d1))) := Lib.hid (by
      intro M' w4 L' hle hx4 ho4 hl4
      obtain ⟨mv4, bs4, hbox, hown, hsub, hgn⟩ := hx4.own
      rw [hle] at hbox hown
      obtain ⟨bm0, bt0, hm0, -⟩ := id hown
      obtain ⟨Am, cm, rfl, -, -⟩ := hm0.slice
      have hLw : ∀ b ∈ L, w.heap.size + 4 ≤ b := fun b hb => by
        rcases hL b hb with h | h
        · have := hr0; have := hsz1; omega
        · have := hlo1 b h; have := hr0; omega
      have hfar : ∀ b ∈ bs4, b ≠ w.heap.size + 1 + 1 + 1 := fun b hb => by
        rcases hl4 b (hsub b hb) with h | h
        · have := hLw b h; omega
        · omega
      refine ⟨Am, cm, bs4, hbox, kr3.only ho4 (fun h => by have := hLw _ h; omega), (hown.far hfar).far hfar, fun b hb => ?_, (((ho4.below (B := w.heap.size) hB3.size fun b hb => by have := hLw b hb; omega) |> hB3.trans).setCell (by show w.heap.size ≤ w.heap.size + 1 + 1 + 1; omega) _).setCell (by show w.heap.size ≤ w.heap.size + 1 + 1 + 1; omega) _⟩
      rcases hl4 b (hsub b hb) with h | h
      · have := hLw b h; omega
      · omega)
    clear hMx3 hB3 hA3 kv3 kc3 kn1 kn2 kp1 km1 kv1 kr1 hoa hb2 hb3 hb23 p0 p1 v0 v1 n0 n1 x0 hL
    cases md
    · have hpk := (List.getElem?_eq_some_iff.1 hcd).1
      obtain ⟨bp, op, rfl, hbp, hpc⟩ := HRP.out (by omega)
      obtain ⟨ck, hck, hrk⟩ := HIN.out.at_ hcd
      obtain ⟨Ak, dk, rfl, -, -, -, -⟩ := id hrk
      obtain ⟨WW, hWW⟩ : ∃ WW, WW = w3.alloc (.cells #[.pointer (some ⟨bT, oT + k * 3, none⟩), .pointer (some ⟨w1.heap.size, 0, none⟩)] 123) := ⟨_, rfl⟩
      have kc := Bk.new w3 #[.pointer (some ⟨bT, oT + k * 3, none⟩), .pointer (some ⟨w1.heap.size, 0, none⟩)] 123
      rw [← hWW] at HM3 HB3 HEND kp3 kr3 u0 s0 s1 kc
      have lc := kc.lt
      have lp := kp3.lt
      have hsW := HB3.out.size
      have lv := World.block_lt_of_cell? WW ⟨w.heap.size + 1 + 1, 0, none⟩ u0
      have P0 := fun q : Past WW => Past.cell lc (kc.at_ 0 (x := .pointer (some ⟨bT, oT + k * 3, none⟩)) rfl).1 q
      have P1 := fun q : Past WW => Past.cell lc (kc.at_ 1 (x := .pointer (some ⟨w1.heap.size, 0, none⟩)) rfl).1 q
      have P2 := fun q : Past WW => Past.cell lp (kp3.at_ 1 (x := .slice (some ⟨bp, op, none⟩) p.x.length cp) rfl).1 q
      have P3 := fun q : Past WW => Past.cell lv u0 q
      have P4 := fun q : Past WW => Past.cell (b := bp) (o := op + k) (by omega) ((HB3.out.cell (p := ⟨bp, op + k, none⟩) hbp).trans (hpc k _ hck)) q
      have hpk' : (k : Int) < p.x.length := by omega
      have hml' : (M.mem.length : Int) = p.c := (machOk_parts HOK.out).2.2.1
      have hc16 : p.c ≤ 16 := by have := progOk_len (machOk_parts HOK.out).1; omega
      have hCX := impl_execute w1.heap.size bT oT d1 k _ code p M t L WW.drew (HM3.out.below (Below.refl _ _).drew) ht HTH.out (exec_of HOK.out ht hcd (by simpa [canT] using hx)) hml' hc16 ((hrk.below HB3.out).below (Below.refl _ _).drew)
      have HCX := Lib.hid hCX
      have HWW := Lib.hid hWW
      clear hWW hCX kc kp3 kr3 s0 s1 u0 hck hrk hpc
      unfold coreV at HCX
      go_wp2_with fail
      try rw [← HWW.out]
      refine wp_region_two 7 7 (fun w' => ∃ q : Past WW, w' = q.v) (fun _ => True) (by kernel_rfl) ?_
      refine wpAnyX_pass (C := (fun w' => ∃ q : Past WW, w' = q.v)) (some false) [true, true, true, true, true, true, true] rfl (by kernel_rfl) (fun _ _ t _ _ h => by cases t <;> exact h) ⟨fun _ => ⟨⟨WW.drew, (Below.refl _ _).drew⟩, rfl⟩, fun _ => trivial⟩ ?_
      simp only [keepOps]
      repeat (go_big_quiet_step (fail))
      refine wpQuiet_nil ?_
      refine wpAnyX_one 7 rfl (by kernel_rfl) (by kernel_rfl) ?_
      go_wp2_with fail
      refine HCX.out.mono ?_
      rintro e w4 ⟨rfl, L', hx4, ho4', hl4'⟩
      have ho4 : Only L WW w4 := (Only.of_below (Below.refl _ _).drew _).trans ho4'
      have hl4 : ∀ b ∈ L', b ∈ L ∨ w3.heap.size + 1 ≤ b := fun b hb => by
        rcases hl4' b hb with h | h
        · exact .inl h
        · refine .inr ?_
          have h2 : WW.heap.size ≤ b := h
          rw [HWW.out] at h2
          simpa using h2
      obtain ⟨Am, cm, bs4, hbox, hkr, hown, hlo4, hB4⟩ := HEND.out _ w4 L' (by simp [execF, effF]) hx4 ho4 hl4
      obtain ⟨z0, -⟩ := hbox.at_ 0 (x := .slice Am (execF M k t code).mem.length cm) rfl
      obtain ⟨z1, -⟩ := hbox.at_ 1 (x := .slice (some ⟨bT, oT, none⟩) M.ths.length d1) rfl
      obtain ⟨q0, e0⟩ := hkr.at_ 0 (x := .slice none 0 0) rfl
      obtain ⟨q1, e1⟩ := hkr.at_ 1 (x := .slice none 0 0) rfl
      have kf := (hkr.set_ 0 (.slice Am (execF M k t code).mem.length cm)).set_ 1 (.slice (some ⟨bT, oT, none⟩) M.ths.length d1)
      obtain ⟨r0, -⟩ := kf.at_ 0 (x := .slice Am (execF M k t code).mem.length cm) rfl
      obtain ⟨r1, -⟩ := kf.at_ 1 (x := .slice (some ⟨bT, oT, none⟩) M.ths.length d1) rfl
      have HE := Lib.hid (And.intro hown (And.intro hlo4 hB4))
      clear hown hlo4 hB4 hx4 ho4 hl4 ho4' hl4' hbox hkr kf u1 P0 P1 P2 P3 P4
      go_wp2_with fail
      refine ⟨⟨fun h => absurd (show true = false from h) (by decide), fun _ => trivial⟩, ?_⟩
      refine wpAnyX_done (by kernel_rfl) ?_
      go_wp2_with fail
      exact bodyPost_ret (v := .tuple #[.agg #[.slice Am (execF M k t code).mem.length cm, .slice (some ⟨bT, oT, none⟩) M.ths.length d1], .bool true]) (by simp [results, Try.results38, go_sem, r0, r1]) rfl
        ⟨_, _, bs4, by rw [HCM.out], by rw [HD.out]; exact HE.out.1, HE.out.2.1, HE.out.2.2⟩
    · go_wp2_with fail
      refine (impl_drainOne w1.heap.size bT oT d1 k M t L _ HM3.out ht (by omega) hml).mono ?_
      rintro e w4 ⟨rfl, L', hx4, ho4, hl4⟩
      obtain ⟨Am, cm, bs4, hbox, hkr, hown, hlo4, hB4⟩ := HEND.out _ w4 L' (by simp [drainF]) hx4 ho4 (by simpa using hl4)
      obtain ⟨z0, -⟩ := hbox.at_ 0 (x := .slice Am (drainF M k t).mem.length cm) rfl
      obtain ⟨z1, -⟩ := hbox.at_ 1 (x := .slice (some ⟨bT, oT, none⟩) M.ths.length d1) rfl
      obtain ⟨q0, e0⟩ := hkr.at_ 0 (x := .slice none 0 0) rfl
      obtain ⟨q1, e1⟩ := hkr.at_ 1 (x := .slice none 0 0) rfl
      have kf := (hkr.set_ 0 (.slice Am (drainF M k t).mem.length cm)).set_ 1 (.slice (some ⟨bT, oT, none⟩) M.ths.length d1)
      obtain ⟨r0, -⟩ := kf.at_ 0 (x := .slice Am (drainF M k t).mem.length cm) rfl
      obtain ⟨r1, -⟩ := kf.at_ 1 (x := .slice (some ⟨bT, oT, none⟩) M.ths.length d1) rfl
      have HE := Lib.hid (And.intro hown (And.intro hlo4 hB4))
      clear hown hlo4 hB4 hx4 ho4 hl4 hbox hkr kf kr3 kp3 u0 u1 s0 s1
      go_wp2_with fail
      exact bodyPost_ret (v := .tuple #[.agg #[.slice Am (drainF M k t).mem.length cm, .slice (some ⟨bT, oT, none⟩) M.ths.length d1], .bool true]) (by simp [results, Try.results38, go_sem, r0, r1]) rfl
        ⟨_, _, bs4, by rw [HCM.out], by rw [HD.out]; exact HE.out.1, HE.out.2.1, HE.out.2.2⟩
end Go.Proofs.Ytiflooopfpcelaa
