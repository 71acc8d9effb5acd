/- Contract of impl's (Bench).holdsOk. Conditions: the bench's rows can be read; lengths that a law bounds. -/
import Derived.Test.YtkpgjeeofghldaaN2
namespace Go.Proofs.Ytkpgjeeofghldaa
set_option maxRecDepth 20000
set_option linter.unusedSimpArgs false
set_option linter.unusedVariables false
open Go.ChangeShapes Go.WideShapes Go.ChangeAt Go.RowKit Go.Maps
set_option linter.unusedVariables false
def HdOk (B : Bn) : Prop := (∀ e ∈ B.h, (0 ≤ e.a ∧ e.a ≤ 4) ∧ (1 ≤ e.b ∧ e.b < B.n)) ∧ B.h.Nodup
instance (B : Bn) : Decidable (HdOk B) := by unfold HdOk; infer_instance
def hdOk (B : Bn) : Bool := decide (HdOk B)
structure SeenM (B : Bn) (k : Nat) (D : DU) : Prop where
  isMap : Maps.IsMap D
  ok : ∀ e ∈ B.h.take k, hIn B e
  nodup : (B.h.take k).Nodup
  val : ∀ e, hIn B e → D.atKey (kH e) (dB false) = dB (decide (e ∈ B.h.take k))
theorem hIn_wf {B : Bn} (hn : B.n ≤ 61) {e : P2} (h : hIn B e) : (Lit.int .i64 e.a).wf = true ∧ (Lit.int .i64 e.b).wf = true := by
  obtain ⟨⟨h1, h2⟩, h3, h4⟩ := h
  exact ⟨WalkArith.wf_i64 (by omega), WalkArith.wf_i64 (by omega)⟩
theorem kH_ne {B : Bn} (hn : B.n ≤ 61) {e f : P2} (he : hIn B e) (hf : hIn B f) (h : e ≠ f) : kH e ≠ kH f := fun hk => by
  have h1 := keyOf_hold e (hIn_wf hn he).1 (hIn_wf hn he).2
  have h2 := keyOf_hold f (hIn_wf hn hf).1 (hIn_wf hn hf).2
  rw [← hk] at h2
  have := holdK.inj h1 h2
  injection this with this
  have h3 := congrArg Array.toList this
  simp at h3
  obtain ⟨ea, eb⟩ := e
  obtain ⟨fa, fb⟩ := f
  simp only at h3
  exact h (by rw [h3.1, h3.2])
theorem SeenM.zero (B : Bn) : SeenM B 0 (.map []) := ⟨⟨[], rfl⟩, by simp, by simp, fun e _ => by simp [DataW.atKey]⟩
theorem SeenM.succ {B : Bn} (hn : B.n ≤ 61) {k : Nat} {D : DU} (h : SeenM B k D) {e : P2} (he : B.h[k]? = some e) (hi : hIn B e) (hm : e ∉ B.h.take k) : SeenM B (k + 1) (D.put (kH e) (dB true)) := by
  have hmem : ∀ f, f ∈ B.h.take (k + 1) ↔ f ∈ B.h.take k ∨ f = e := fun f => by
    rw [List.take_add_one, he, List.mem_append]
    simp
  refine ⟨h.isMap.put _ _, mem_take_snoc h.ok he hi, nodup_take_snoc h.nodup he (fun y hy e1 => hm (e1 ▸ hy)), fun f hf => ?_⟩
  by_cases e1 : f = e
  · subst e1
    rw [atKey_put_same h.isMap (show WideAt.IsKeyLit (kH f) from trivial)]
    simp [hmem]
  · rw [atKey_put_other (kH_ne hn hf hi e1), h.val f hf]
    simp [hmem, e1]
theorem hd_no_in {B : Bn} {k : Nat} {e : P2} (he : B.h[k]? = some e) (h : ¬ hIn B e) : hdOk B = false := decide_eq_false fun hb => h (hb.1 e (List.mem_of_getElem? he))
theorem hd_no_dup {B : Bn} {k : Nat} {e : P2} (he : B.h[k]? = some e) (h : e ∈ B.h.take k) : hdOk B = false := decide_eq_false fun hb => by
  obtain ⟨j, hj, e1⟩ := List.getElem_of_mem h
  rw [List.getElem_take] at e1
  rw [List.length_take] at hj
  exact nodup_ne hb.2 (i := j) (j := k) (by omega) (by rw [List.getElem?_eq_getElem (by omega), e1]) he
theorem hd_yes {B : Bn} {D : DU} (h : SeenM B B.h.length D) : hdOk B = true := decide_eq_true ⟨fun e he => h.ok e (by simpa using he), by simpa using h.nodup⟩
theorem zeroBool (w : World) : (zeroValue 4).run Try.prog w = .ok (.bool false) w := by kernel_rfl
set_option maxHeartbeats 3200000 in
theorem impl_holdsOk (a b c d : Value) (B : Bn) (w : World) (r : RdBn w a b c d B) (hn : B.n ≤ 61) (hsz : szBn B ≤ 16777216) :
    Calls Try.prog 22 #[.agg #[a, b, c, d, .int .i64 B.n]] w fun e w' => e = .returned (.bool (hdOk B)) ∧ Below w.heap.size w w' := by
  obtain ⟨A1, c1, A2, c2, A3, c3, A4, c4, ⟨rfl, rfl, rfl, rfl⟩, ⟨g1, g2, g3, g4⟩, ⟨k1, k2, k3, k4⟩⟩ := r.slices
  have hsm : B.h.length ≤ 16777216 := by unfold szBn at hsz; omega
  have hB0 := (Below.refl w.heap.size w).alloc (Nat.le_refl _) (.cells #[.slice A1 B.l.length c1, .slice A2 B.h.length c2, .slice A3 B.w.length c3, .slice A4 B.f.length c4, .int .i64 B.n] 30)
  have hB1 := hB0.alloc (by simp) (.map #[] 0)
  have k0 := (Bk.new w #[.slice A1 B.l.length c1, .slice A2 B.h.length c2, .slice A3 B.w.length c3, .slice A4 B.f.length c4, .int .i64 B.n] 30).alloc (.map #[] 0)
  have hM := World.ownsMap_made (H := Unit) (w.alloc (.cells #[.slice A1 B.l.length c1, .slice A2 B.h.length c2, .slice A3 B.w.length c3, .slice A4 B.f.length c4, .int .i64 B.n] 30)) Try.prog 44 (plainElem Try.prog 4)
  rw [World.size_alloc] at hM
  have hmm := @run_makeMap Try.prog
  have HR := Lib.hid r
  clear r hsz hB0
  go_enter Try.func22, Try.ntmps22
  go_wp2_with fail
  go_loopw [10] (fun i wr => ∃ (k : Nat) (D : DU), k ≤ B.h.length ∧ i = .int .i64 k ∧ wr.ownsMap Try.prog 44 (plainElem Try.prog 4) (w.heap.size + 1) k D ∧ Hid (SeenM B k D) ∧ Below w.heap.size w wr ∧ Bk wr w.heap.size #[.slice A1 B.l.length c1, .slice A2 B.h.length c2, .slice A3 B.w.length c3, .slice A4 B.f.length c4, .int .i64 B.n] 30) (fun i _ => B.h.length - (intOf i).toNat)
  case atStart => exact ⟨0, .map [], Nat.zero_le _, rfl, hM, Lib.hid (SeenM.zero B), hB1, k0⟩
  case round =>
    obtain ⟨k, D, hk, rfl, hM', HS, hB, kb⟩ := hrel
    clear hM hB1 k0 hmm
    by_cases hlt : k < B.h.length
    · obtain ⟨A, cc, he, -, -, -, hr⟩ := HR.out.h
      injection he with e1 _ e2
      subst e1 e2
      obtain ⟨b, o, rfl, hb, hcell⟩ := hr (by omega)
      obtain ⟨e, hek, hx0, hx1⟩ := p2_at (fun j u hu => (hB.cell (p := ⟨b, o + j, none⟩) hb).trans (hcell j u hu)) hlt
      obtain ⟨ea, eb⟩ := e
      simp only at hx0 hx1
      clear hcell hr
      obtain ⟨t0, -⟩ := kb.at_ 0 (x := .slice A1 B.l.length c1) rfl
      obtain ⟨t1, -⟩ := kb.at_ 1 (x := .slice (some ⟨b, o, none⟩) B.h.length c2) rfl
      obtain ⟨t2, -⟩ := kb.at_ 2 (x := .slice A3 B.w.length c3) rfl
      obtain ⟨t3, -⟩ := kb.at_ 3 (x := .slice A4 B.f.length c4) rfl
      obtain ⟨t4, -⟩ := kb.at_ 4 (x := .int .i64 B.n) rfl
      have hlb : w.heap.size < wr.heap.size := kb.lt
      obtain ⟨v1, hv1⟩ : ∃ v, inB ea 0 4 = v := ⟨_, rfl⟩
      obtain ⟨v2, hv2⟩ : ∃ v, crB B.n eb = v := ⟨_, rfl⟩
      have HI : Hid (v1 = true → v2 = true → hIn B ⟨ea, eb⟩) := Lib.hid (fun h1 h2 => by
        rw [h1] at hv1
        rw [h2] at hv2
        have := inB_true hv1
        simp [crB] at hv2
        exact ⟨⟨by show 0 ≤ ea; omega, by show ea ≤ 4; omega⟩, by show 1 ≤ eb; omega, by show eb < B.n; omega⟩)
      have HO1 : Hid (v1 = false ∨ v2 = false → hdOk B = false) := Lib.hid (fun h => hd_no_in hek.out (fun hi => by
        have i1 : 0 ≤ ea := hi.1.1
        have i2 : ea ≤ 4 := hi.1.2
        have i3 : 1 ≤ eb := hi.2.1
        have i4 : eb < B.n := hi.2.2
        rcases h with h | h
        · rw [h] at hv1
          rcases inB_false hv1 with h | h
          · omega
          · omega
        · rw [h] at hv2
          simp [crB] at hv2
          omega))
      have HQ1 : Hid (∀ W : World, Calls Try.prog 27 #[.int .i64 ea, .int .i64 5] W fun e w' => e = .returned (.bool v1) ∧ W = w') := Lib.hid (fun W => (impl_indexOk ea 5 W).mono fun e w' h => ⟨by rw [h.1, ← hv1]; rfl, h.2⟩)
      have HQ2 : Hid (∀ W : World, Calls Try.prog 25 #[.agg #[.slice A1 B.l.length c1, .slice (some ⟨b, o, none⟩) B.h.length c2, .slice A3 B.w.length c3, .slice A4 B.f.length c4, .int .i64 B.n], .int .i64 eb] W fun e w' => e = .returned (.bool v2) ∧ Below W.heap.size W w') := Lib.hid (fun W => by
        have := impl_created A1 (some ⟨b, o, none⟩) A3 A4 B.l.length B.h.length B.w.length B.f.length c1 c2 c3 c4 B.n eb W
        rw [hv2] at this
        exact this)
      clear hv1 hv2
      have hB' := hB.alloc hB.size (.cells #[.int .i64 ea, .int .i64 eb] 44)
      cases v1
      · have HO := Lib.hid (HO1.out (.inl rfl))
        clear HI HO1
        go_wp2_with (go_at_call 27; refine (HQ1.out _).mono ?_; rintro e w' ⟨rfl, rfl⟩)
        go_ret
        exact ⟨ret_bool HO.out.symm, hB'⟩
      · cases v2
        · have HO := Lib.hid (HO1.out (.inr rfl))
          clear HI HO1
          have kb' := kb.alloc (.cells #[.int .i64 ea, .int .i64 eb] 44)
          go_wp2_with (first
            | (go_at_call 27; refine (HQ1.out _).mono ?_; rintro e w' ⟨rfl, rfl⟩)
            | (go_at_call 25; refine (HQ2.out _).mono ?_; rintro e w1 ⟨rfl, hb1⟩))
          go_ret
          exact ⟨ret_bool HO.out.symm, hB'.trans (hb1.mono hB'.size)⟩
        · have HII := Lib.hid (HI.out rfl rfl)
          have hM2 := hM'.alloc (.cells #[.int .i64 ea, .int .i64 eb] 44)
          have kh := Bk.new wr #[.int .i64 ea, .int .i64 eb] 44
          have kb' := kb.alloc (.cells #[.int .i64 ea, .int .i64 eb] 44)
          have hk2 := keyOf_hold ⟨ea, eb⟩ (hIn_wf hn HII.out).1 (hIn_wf hn HII.out).2
          have hlm : w.heap.size + 1 < (wr.alloc (.cells #[.int .i64 ea, .int .i64 eb] 44)).heap.size := hM2.lt
          obtain ⟨v3, hv3⟩ : ∃ v, decide ((⟨ea, eb⟩ : P2) ∈ B.h.take k) = v := ⟨_, rfl⟩
          have hat := HS.out.val ⟨ea, eb⟩ HII.out
          rw [hv3] at hat
          have HAT := Lib.hid hat
          have HV3 := Lib.hid hv3
          have HK2 := Lib.hid hk2
          have HRET : Hid (v3 = true → hdOk B = false) := Lib.hid (fun h => hd_no_dup hek.out (of_decide_eq_true (hv3.trans h)))
          clear hat hv3 hk2 HI HO1 hM'
          go_upto_if 29 with (first
            | (go_at_call 27; refine (HQ1.out _).mono ?_; rintro e w' ⟨rfl, rfl⟩)
            | (go_at_call 25; refine (HQ2.out _).mono ?_; rintro e w1 ⟨rfl, hb1⟩; have hM3 := hM2.below hb1 hlm; have kh1 := kh.below hb1 (by simp); have kb1 := kb'.below hb1 kb'.lt; have hB1 := hB'.trans (hb1.mono hB'.size);
               obtain ⟨y0, -⟩ := kh1.at_ 0 (x := .int .i64 ea) rfl; obtain ⟨y1, -⟩ := kh1.at_ 1 (x := .int .i64 eb) rfl; clear hM2 kh kb' hB')
            | (at_lookup; refine wpList_lookup_own_boolG _ rfl _ _ _ rfl 44 4 holdK Try.underlying54 Try.underlying4 (zeroBool _) (w.heap.size + 1) k D rfl hM3 _ (kH ⟨ea, eb⟩) rfl HK2.out v3 HAT.out ?_))
          cases v3
          · have HN := Lib.hid (HS.out.succ hn hek.out HII.out (of_decide_eq_false HV3.out))
            clear HRET
            go_wp2_with (at_mapUpdate; refine wpList_mapUpdate_own _ rfl _ _ _ 54 rfl 44 4 holdK Try.underlying54 _ (w.heap.size + 1) k D rfl hM3 (by unfold maxLen; omega) _ _ (kH ⟨ea, eb⟩) rfl rfl HK2.out (dB true) [] (plainElem_bool Try.underlying4 true) ?_; intro w2 hown2 hgr2)
            have hBn := hB1.grown hgr2 hB1.size (by intro j hj; injection hj with hj; omega)
            have kbn := kb1.grown hgr2 (by intro j hj; injection hj with hj; omega)
            go_wp2_with fail
            exact ⟨⟨k + 1, _, by omega, by go_num, hown2, HN, hBn, kbn⟩, by simp [intOf]; omega⟩
          · have HO := Lib.hid (HRET.out rfl)
            go_wp2_with fail
            go_ret
            exact ⟨ret_bool HO.out.symm, hB1⟩
    · obtain rfl : k = B.h.length := by omega
      have HO := Lib.hid (hd_yes HS.out)
      go_wp2_with fail
      go_ret
      exact ⟨ret_bool HO.out.symm, hB⟩
end Go.Proofs.Ytkpgjeeofghldaa
