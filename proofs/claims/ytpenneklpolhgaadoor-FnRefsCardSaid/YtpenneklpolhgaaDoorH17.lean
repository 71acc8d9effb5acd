/- Contract of chapter 8's function PlayHeap (package impl). Conditions: the operations can be read; the library's variable errors.errorType holds the handle of the type error. -/
import Derived.Test.YtpenneklpolhgaaDoorH16
namespace Go.Proofs.YtpenneklpolhgaaDoor
set_option maxRecDepth 20000
set_option linter.unusedSimpArgs false
set_option linter.unusedVariables false
open Go.ChangeShapes Go.WideShapes Go.ChangeAt Go.RowKit
set_option linter.unusedVariables false
theorem PlI.set_ {w : World} {pB base g i : Nat} {gv lv v8 u : Value} {h : Hp} {rs : List P2} {bs : List Nat} (p : PlI w pB base gv lv v8 h rs bs) (h1 : pB ≠ g) (h2 : g ∉ bs) (h3 : g < base) : PlI (w.setCell ⟨g, i, none⟩ u) pB base gv lv v8 h rs bs :=
  ⟨p.box.far (p := ⟨g, i, none⟩) h1 u, p.hp.far fun x hx e => h2 (e ▸ hx), ownsRow_setCell_other p.refs (a := ⟨g, i, none⟩) (fun e => by have := (p.refs.lt g e).1; omega) u, p.nb, p.pb, p.lt⟩
theorem resPart_set {L : List Int} {k m : Nat} {c : Int} (hl : L.length = k) : (ints L ++ List.replicate (m + 1) (Value.int .i64 0)).set k (.int .i64 c) = ints (L ++ [c]) ++ List.replicate m (.int .i64 0) := by
  have h1 : (ints L).length = k := by rw [ints_len, hl]
  rw [List.set_append, if_neg (by omega), h1, Nat.sub_self, List.replicate_succ, List.set_cons_zero]
  simp [ints]
theorem resPart_at {L : List Int} {k m : Nat} (hl : L.length = k) : (ints L ++ List.replicate (m + 1) (Value.int .i64 0))[k]? = some (.int .i64 0) := by
  have h1 : (ints L).length = k := by rw [ints_len, hl]
  rw [List.getElem?_append_right (by omega), h1, Nat.sub_self]
  rfl
theorem play_no {n : Int} {ops : List P2} (h : playOk n ops = false) : playH n ops = ⟨[], []⟩ ∧ playT n ops = [] := by simp [playH, playT, h]
theorem play_yes {n : Int} {ops : List P2} (h : playOk n ops = true) : playH n ops = (playK n ops ops.length).h ∧ playT n ops = (playK n ops ops.length).t := by simp [playH, playT, h]
set_option maxHeartbeats 3200000 in
theorem impl_PlayHeap (n : Int) (v : Value) (ops : List P2) (w : World) (h : Rd w v 2 ops.length (flc2 ops)) (hn : (Lit.int .i64 n).wf = true) (hE : ErrTy w) :
    Calls Tryd.prog 17 #[.int .i64 n, v] w (RetPl (playH n ops) (playT n ops) w) := by
  obtain ⟨A, c, rfl, -, hnc, hc, hr⟩ := id h
  unfold maxLen at hc
  obtain ⟨i, hi, hiz0, hiz1, hiz2⟩ := info_parts infoInt
  have hB0 := (Below.refl w.heap.size w).alloc (Nat.le_refl _) (.cells #[.slice none 0 0, .slice none 0 0] 29)
  have k0 := Bk.new w #[.slice none 0 0, .slice none 0 0] 29
  go_enter Tryd.func17, Tryd.ntmps17
  go_wp2_with fail
  refine (impl_NewHeap n _ hn).mono ?_
  rintro e w1 ⟨gv, lv, bs, rfl, ho1, hbs1, hb1⟩
  obtain ⟨A1, c1, B1, d1, rfl, rfl⟩ := ho1.slices
  have hB1 := hB0.trans (hb1.mono hB0.size)
  have k1 := k0.below hb1 k0.lt
  have hi1 := ho1.lt
  rw [World.size_alloc] at hbs1
  obtain ⟨h0, hh0⟩ : ∃ h0, newHp n = h0 := ⟨_, rfl⟩
  have hlen := newHp_len n
  rw [hh0] at ho1 hlen ⊢
  have HH0 := Lib.hid hh0
  have hlen' : h0.g.length ≤ 24 ∧ h0.l.length ≤ h0.g.length ∧ h0.g.length ≤ h0.l.length := by omega
  clear hlen
  have l1 := k1.lt
  clear hh0 k0 hb1 hB0
  by_cases hbad : playOk n ops = false
  · have HN := Lib.hid (play_no hbad)
    obtain ⟨y0, f0⟩ := k1.at_ 0 (x := .slice none 0 0) rfl
    obtain ⟨y1, f1⟩ := k1.at_ 1 (x := .slice none 0 0) rfl
    have kF := ((k1.set_ 0 (.slice none 0 0)).set_ 1 (.slice none 0 0)).alloc (.cells #[.slice A1 h0.g.length c1, .slice B1 h0.l.length d1] 29)
    obtain ⟨z0, -⟩ := kF.at_ 0 (x := .slice none 0 0) rfl
    obtain ⟨z1, -⟩ := kF.at_ 1 (x := .slice none 0 0) rfl
    have hBF := ((hB1.setCell (p := ⟨w.heap.size, 0, none⟩) (Nat.le_refl _) (.slice none 0 0)).setCell (p := ⟨w.heap.size, 1, none⟩) (Nat.le_refl _) (.slice none 0 0))
    have hBG := hBF.alloc hBF.size (.cells #[.slice A1 h0.g.length c1, .slice B1 h0.l.length d1] 29)
    cases hin : inB n 1 24
    · clear hbad hin kF
      go_wp2_with fail
      refine bodyPost_ret (v := .tuple #[.agg #[.slice none 0 0, .slice none 0 0], .slice none 0 0]) (by simp [results, Tryd.results17, go_sem, z0, z1]) rfl ⟨_, _, [] ++ [], _, [], rfl, by rw [HN.out.1]; exact OwnHp.mk (Own.nil _ _) (Own.nil _ _) (by simp), by rw [HN.out.2]; exact Own.nil _ _, by simp, by simp, by simp, hBG⟩
    · have h300 : 300 < ops.length := by simp [playOk, hin] at hbad; omega
      clear hbad hin kF
      go_wp2_with fail
      refine bodyPost_ret (v := .tuple #[.agg #[.slice none 0 0, .slice none 0 0], .slice none 0 0]) (by simp [results, Tryd.results17, go_sem, z0, z1]) rfl ⟨_, _, [] ++ [], _, [], rfl, by rw [HN.out.1]; exact OwnHp.mk (Own.nil _ _) (Own.nil _ _) (by simp), by rw [HN.out.2]; exact Own.nil _ _, by simp, by simp, by simp, hBG⟩
  · have hok : playOk n ops = true := by simpa using hbad
    have HN := Lib.hid (play_yes hok)
    simp only [playOk, Bool.and_eq_true, decide_eq_true_eq] at hok
    obtain ⟨hin, h300⟩ := hok
    rw [hin]
    clear hbad hin
    have q1 := (k1.alloc (.cells #[.slice A1 h0.g.length c1, .slice B1 h0.l.length d1] 29)).alloc (.cells #[.slice A1 h0.g.length c1, .slice B1 h0.l.length d1, .slice none 0 0] 79)
    have q8 := Bk.new (w1.alloc (.cells #[.slice A1 h0.g.length c1, .slice B1 h0.l.length d1] 29)) #[.slice A1 h0.g.length c1, .slice B1 h0.l.length d1, .slice none 0 0] 79
    have hbA := ((Below.refl w1.heap.size w1).alloc (Nat.le_refl _) (.cells #[.slice A1 h0.g.length c1, .slice B1 h0.l.length d1] 29)).alloc (by simp) (.cells #[.slice A1 h0.g.length c1, .slice B1 h0.l.length d1, .slice none 0 0] 79)
    rw [World.size_alloc] at q8
    obtain ⟨W3, hW3⟩ : ∃ W3, W3 = (w1.alloc (.cells #[.slice A1 h0.g.length c1, .slice B1 h0.l.length d1] 29)).alloc (.cells #[.slice A1 h0.g.length c1, .slice B1 h0.l.length d1, .slice none 0 0] 79) := ⟨_, rfl⟩
    have hz3 : W3.heap.size = w1.heap.size + 2 := by rw [hW3]; simp
    rw [← hW3] at q1 q8 hbA
    have HW3 := Lib.hid hW3
    have ho3 := ho1.below hbA
    have hB3 := hB1.trans (hbA.mono hB1.size)
    clear hW3
    go_upto_region 5 with (fail)
    rw [← HW3.out]
    go_wp2_with (at_make; refine wpList_make_full _ rfl _ _ 22 rfl W3.heap.size 3 i (.int .i64 0) 1 Tryd.underlying22 hi hiz0 hiz1 _ _ _ _ ops.length rfl rfl rfl rfl (by rw [hiz2]; omega) (by unfold maxLen; omega) (Nat.le_refl _) ?_)
    intro w5 hown hg5
    rw [toList_madeCells_one] at hown
    have hb5 : Below W3.heap.size W3 w5 := (Below.refl _ _).grown hg5 (Nat.le_refl _) (by simp)
    have hs5 := hb5.size
    have hgR : w1.heap.size + 2 < w5.heap.size ∨ ops.length = 0 := by
      by_cases h0 : ops.length = 0
      · exact .inr h0
      · obtain ⟨bt, hb, -⟩ := Own.of_owns hown
        exact .inl (own_glt hb (by omega))
    have hpl : PlI w5 (w1.heap.size + 1) w5.heap.size (.slice A1 h0.g.length c1) (.slice B1 h0.l.length d1) (.slice none 0 0) (playK n ops 0).h (playK n ops 0).rs bs := by
      rw [playK_zero, HH0.out]
      exact ⟨q8.below hb5 q8.lt, ho3.below hb5, by simpa [flc2, fl2, ints] using World.ownsRow_nil w5 w5.heap.size 33 2, fun q hq => by simp [Value.ownBlock] at hq, fun hm => by have := hi1 _ hm; omega, by omega⟩
    have hB5 := hB3.trans (hb5.mono hB3.size)
    have k5 := q1.below hb5 q1.lt
    have hgb : w1.heap.size + 2 ∉ bs ∧ ∀ b ∈ bs, w.heap.size + 1 ≤ b := ⟨fun hm => by have := hi1 _ hm; omega, hbs1⟩
    have HL1 : Hid (w.heap.size < w1.heap.size) := Lib.hid l1
    clear hbA q1 q8 ho3 hB3 hg5 hb5 ho1 hi1 hbs1 k1 hB1 l1 hz3
    go_wp2_with fail
    go_loopw [32] (fun i wr => ∃ (k : Nat) (gv lv v8 : Value) (bs : List Nat), k ≤ ops.length ∧ i = .int .i64 k ∧ PlI wr (w1.heap.size + 1) w5.heap.size gv lv v8 (playK n ops k).h (playK n ops k).rs bs ∧ Hid (w1.heap.size + 2 ∉ bs ∧ ∀ b ∈ bs, w.heap.size + 1 ≤ b) ∧
      wr.ownsRow (w1.heap.size + 2) 3 1 (.slice (some ⟨w1.heap.size + 2, 0, none⟩) ops.length ops.length) ops.length (ints (playK n ops k).t ++ List.replicate (ops.length - k) (.int .i64 0)) ∧ Below w.heap.size w wr ∧ Bk wr w.heap.size #[.slice none 0 0, .slice none 0 0] 29 ∧ Hid (w5.heap.size ≤ wr.heap.size)) (fun i _ => ops.length - (intOf i).toNat)
    case atStart => exact ⟨0, _, _, _, bs, Nat.zero_le _, rfl, hpl, Lib.hid hgb, by rw [playK_zero]; simpa [ints] using hown, hB5, k5, Lib.hid (Nat.le_refl _)⟩
    case round =>
      obtain ⟨k, gv, lv, v8, bs2, hk, rfl, hP, HGB, hO, hB, hK, HSZ⟩ := hrel
      clear hpl hgb hown hB5 k5
      have hlk := playK_len n ops k hk
      have hl1 := HL1.out
      by_cases hlt : k < ops.length
      · have hg5 : w1.heap.size + 2 < w5.heap.size := by omega
        obtain ⟨b, o, rfl, hb, hcell⟩ := hr (by omega)
        obtain ⟨x, hxk, x0, x1⟩ := p2_at (w := wr) (fun j u hu => (hB.cell (p := ⟨b, o + j, none⟩) hb).trans (hcell j u hu)) hlt
        obtain ⟨code, hcode⟩ := stepS_t (playK n ops k) x
        have hba := (Below.refl wr.heap.size wr).alloc (Nat.le_refl _) (.cells #[.int .i64 x.a, .int .i64 x.b] 57)
        have hDO := play_do (w1.heap.size + 1) w5.heap.size gv lv v8 (playK n ops k) bs2 x _ (hP.below hba) ⟨hlk.2.2.1, hlk.2.2.2⟩ (by omega) (Nat.le_trans HSZ.out hba.size) (hE.below (hB.trans (hba.mono hB.size)) (Nat.le_refl _)) code hcode
        have hOa := hO.alloc (.cells #[.int .i64 x.a, .int .i64 x.b] 57)
        have hKa := hK.alloc (.cells #[.int .i64 x.a, .int .i64 x.b] 57)
        have hBa := hB.alloc hB.size (.cells #[.int .i64 x.a, .int .i64 x.b] 57)
        have hnb : ∀ q, v8.ownBlock = some q → w5.heap.size ≤ q := fun q hq => (hP.refs.lt q hq).1
        have hsa := hba.size
        obtain ⟨wq, hwq⟩ : ∃ wq, wq = wr.alloc (.cells #[.int .i64 x.a, .int .i64 x.b] 57) := ⟨_, rfl⟩
        rw [← hwq] at hDO hOa hKa hBa hsa
        have HWQ := Lib.hid hwq
        have HDO := Lib.hid hDO
        have HKS := Lib.hid (playK_succ (n := n) hxk.out)
        have HLT := Lib.hid hlk.2.1
        have HSA := Lib.hid hsa
        clear hcell hr hDO hwq hO hK hba hlk hsa
        go_upto_region 9 with (fail)
        rw [← HWQ.out]
        have hx0 : wq.cell? ⟨wr.heap.size, 0, none⟩ = some (.int .i64 x.a) := by rw [HWQ.out]; exact ((Bk.new wr #[.int .i64 x.a, .int .i64 x.b] 57).at_ 0 rfl).1
        have hx1 : wq.cell? ⟨wr.heap.size, 1, none⟩ = some (.int .i64 x.b) := by rw [HWQ.out]; exact ((Bk.new wr #[.int .i64 x.a, .int .i64 x.b] 57).at_ 1 rfl).1
        clear x0 x1
        go_wp2_with fail
        refine HDO.out.mono ?_
        rintro e w2 ⟨gv2, lv2, v82, bs3, rfl, hP2, hbs3, hv3, hon⟩
        have hks : ∀ q ∈ (w1.heap.size + 1) :: v8.ownBlock.toList, q = w1.heap.size + 1 ∨ w5.heap.size ≤ q := fun q hq => by
          rcases List.mem_cons.1 hq with rfl | hq
          · exact .inl rfl
          · exact .inr (hnb q (by simpa using hq))
        have hO2 := owns_only hOa hon (fun q hq hm => by simp [Value.ownBlock] at hq; have := hks q hm; omega)
        have hK2 := hKa.only hon (fun hm => by have := hks _ hm; omega)
        have hB2 := hBa.trans (hon.below hBa.size (fun q hq => by have := hks q hq; omega))
        have hs2 := hon.size
        have hG3 : w1.heap.size + 2 ∉ bs3 ∧ ∀ b ∈ bs3, w.heap.size + 1 ≤ b := ⟨fun hm => by
          rcases hbs3 _ hm with h | h
          · exact HGB.out.1 h
          · have := HSA.out; have := HSZ.out; omega, fun q hq => by
          rcases hbs3 _ hq with h | h
          · exact HGB.out.2 q h
          · have := HSA.out; have := HSZ.out; omega⟩
        have HG3 := Lib.hid hG3
        have hlk' : ops.length - k = (ops.length - (k + 1)) + 1 := by omega
        rw [hlk'] at hO2
        have hcA := (hO2.cellAt k (by omega)).trans (resPart_at HLT.out)
        have hfA := hO2.frozenAt k
        have hO3 := (hO2.stored k (.int .i64 code)).1
        rw [resPart_set HLT.out, ← hcode, ← HKS.out] at hO3
        have hP3 := hP2.set_ (i := k) (u := .int .i64 code) (by omega) hG3.1 hg5
        rw [← HKS.out] at hP3
        have HP3 := Lib.hid hP3
        have HO3 := Lib.hid hO3
        have HB3 := Lib.hid (hB2.setCell (p := ⟨w1.heap.size + 2, k, none⟩) (by show w.heap.size ≤ w1.heap.size + 2; omega) (.int .i64 code))
        have HK3 := Lib.hid (hK2.far (p := ⟨w1.heap.size + 2, k, none⟩) (by show w.heap.size ≠ w1.heap.size + 2; omega) (.int .i64 code))
        have HS3 : Hid (w5.heap.size ≤ (w2.setCell ⟨w1.heap.size + 2, k, none⟩ (.int .i64 code)).heap.size) := Lib.hid (by have := HSA.out; have := HSZ.out; simp [World.setCell]; omega)
        clear hP3 hO3 hO2 hP2 hB2 hK2 hon hbs3 hv3 hlk' hG3 hx0 hx1 hOa hKa hBa hP hB hcode
        go_wp2_with fail
        exact ⟨⟨k + 1, _, _, _, bs3, by omega, by go_num, HP3.out, HG3, HO3.out, HB3.out, HK3.out, HS3⟩, by simp [intOf]; omega⟩
      · obtain rfl : k = ops.length := by omega
        obtain ⟨A2, c2, B2, d2, rfl, rfl, -⟩ := hP.hp.rd.slices
        obtain ⟨y0, -⟩ := hP.box.at_ 0 (x := .slice A2 (playK n ops ops.length).h.g.length c2) rfl
        obtain ⟨y1, -⟩ := hP.box.at_ 1 (x := .slice B2 (playK n ops ops.length).h.l.length d2) rfl
        obtain ⟨u0, f0⟩ := hK.at_ 0 (x := .slice none 0 0) rfl
        obtain ⟨u1, f1⟩ := hK.at_ 1 (x := .slice none 0 0) rfl
        have kF := (hK.set_ 0 (.slice A2 (playK n ops ops.length).h.g.length c2)).set_ 1 (.slice B2 (playK n ops ops.length).h.l.length d2)
        obtain ⟨z0, -⟩ := kF.at_ 0 (x := .slice A2 (playK n ops ops.length).h.g.length c2) rfl
        obtain ⟨z1, -⟩ := kF.at_ 1 (x := .slice B2 (playK n ops ops.length).h.l.length d2) rfl
        have oF := (hP.hp.far (b := w.heap.size) (k := 0) (u := .slice A2 (playK n ops ops.length).h.g.length c2) (fun b hb => by have := HGB.out.2 b hb; omega)).far (b := w.heap.size) (k := 1) (u := .slice B2 (playK n ops ops.length).h.l.length d2) (fun b hb => by have := HGB.out.2 b hb; omega)
        rw [Nat.sub_self, List.replicate_zero, List.append_nil] at hO
        obtain ⟨bt, h1, h2⟩ := Own.of_owns hO
        have h3 := own_g h1
        have tF := (h1.far (b := w.heap.size) (i := 0) (u := .slice A2 (playK n ops ops.length).h.g.length c2) (fun b hb => by have := h3 b hb; omega)).far (b := w.heap.size) (i := 1) (u := .slice B2 (playK n ops ops.length).h.l.length d2) (fun b hb => by have := h3 b hb; omega)
        have HE := Lib.hid (And.intro oF tF)
        have HBF := Lib.hid ((hB.setCell (p := ⟨w.heap.size, 0, none⟩) (Nat.le_refl _) (.slice A2 (playK n ops ops.length).h.g.length c2)).setCell (p := ⟨w.heap.size, 1, none⟩) (Nat.le_refl _) (.slice B2 (playK n ops ops.length).h.l.length d2))
        have HLT := Lib.hid hlk.2.1
        have npb : w1.heap.size + 1 ≠ w.heap.size := by omega
        clear kF oF tF hO h1 hK hB hP hr hlk
        go_wp2_with fail
        exact bodyPost_ret (v := .tuple #[.agg #[.slice A2 (playK n ops ops.length).h.g.length c2, .slice B2 (playK n ops ops.length).h.l.length d2], .slice (some ⟨w1.heap.size + 2, 0, none⟩) ops.length ops.length]) (by simp [results, Tryd.results17, go_sem, z0, z1]) rfl
          ⟨_, _, bs2, _, bt, rfl, by rw [HN.out.1]; exact HE.out.1, by rw [HN.out.2, HLT.out]; exact HE.out.2, fun b hb => by have := HGB.out.2 b hb; omega, fun b hb => by have := h3 b hb; omega, fun b hb hm => HGB.out.1 ((h3 b hm) ▸ hb), HBF.out⟩
end Go.Proofs.YtpenneklpolhgaaDoor
