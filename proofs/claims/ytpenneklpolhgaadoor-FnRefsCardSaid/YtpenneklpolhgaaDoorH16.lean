/- Contract of chapter 8's function (*play).do (package impl). Conditions: the play's box, its heap's rows and its row of references are the call's own; a heap of at most 24 objects; the library's variable errors.errorType holds the handle of the type error. -/
import Derived.Test.YtpenneklpolhgaaDoorH15
namespace Go.Proofs.YtpenneklpolhgaaDoor
set_option maxRecDepth 20000
set_option linter.unusedSimpArgs false
set_option linter.unusedVariables false
open Go.ChangeShapes Go.WideShapes Go.ChangeAt Go.RowKit
set_option linter.unusedVariables false
theorem PlI.same {w w' : World} {pB base : Nat} {gv lv v8 : Value} {h : Hp} {rs : List P2} {bs : List Nat} {c : Int} (p : PlI w pB base gv lv v8 h rs bs) (hb : Below w.heap.size w w') : RetDo w pB base v8 bs h rs c (.returned (.int .i64 c)) w' :=
  ⟨gv, lv, v8, bs, rfl, p.below hb, fun _ h => .inl h, fun _ h => .inl h, Only.of_below hb _⟩
theorem tell_of {s : Ps} {op : P2} {h : Hp} {rs : List P2} {x c : Int} (e : stepS s op = ⟨h, rs, s.t ++ [x]⟩) (hc : (stepS s op).t = s.t ++ [c]) : (stepS s op).h = h ∧ (stepS s op).rs = rs ∧ c = x := by
  rw [e] at hc ⊢
  have := List.append_cancel_left hc
  simp at this
  exact ⟨rfl, rfl, this.symm⟩
set_option maxHeartbeats 3200000 in
theorem play_do (pB base : Nat) (gv lv v8 : Value) (s : Ps) (bs : List Nat) (op : P2) (w : World) (p : PlI w pB base gv lv v8 s.h s.rs bs) (hsz : s.h.g.length ≤ 24 ∧ s.h.l.length ≤ 24) (hrs : s.rs.length ≤ 300) (hbw : base ≤ w.heap.size) (hE : ErrTy w)
    (code : Int) (hc : (stepS s op).t = s.t ++ [code]) :
    Calls Tryd.prog 48 #[.pointer (some ⟨pB, 0, none⟩), .agg #[.int .i64 op.a, .int .i64 op.b]] w (RetDo w pB base v8 bs (stepS s op).h (stepS s op).rs code) := by
  obtain ⟨A, c, B, d, rfl, rfl, -⟩ := p.hp.rd.slices
  obtain ⟨A8, c8, rfl⟩ := owns_form p.refs
  have hb0 := (Below.refl w.heap.size w).alloc (Nat.le_refl _) (.cells #[.int .i64 op.a, .int .i64 op.b] 57)
  have q0 := Bk.new w #[.int .i64 op.a, .int .i64 op.b] 57
  obtain ⟨W1, hW1⟩ : ∃ W1, W1 = w.alloc (.cells #[.int .i64 op.a, .int .i64 op.b] 57) := ⟨_, rfl⟩
  have hz1 : W1.heap.size = w.heap.size + 1 := by rw [hW1]; simp
  rw [← hW1] at hb0 q0
  have HW1 := Lib.hid hW1
  have p1 := p.below hb0
  have hE1 := hE.below hb0 (Nat.le_refl _)
  have hbw1 : base ≤ W1.heap.size := by omega
  obtain ⟨x0, -⟩ := q0.at_ 0 (x := .int .i64 op.a) rfl
  obtain ⟨x1, -⟩ := q0.at_ 1 (x := .int .i64 op.b) rfl
  obtain ⟨x2, -⟩ := p1.box.at_ 2 (x := .slice A8 s.rs.length c8) rfl
  have lp := p1.box.lt
  have lq := q0.lt
  have HP1 := Lib.hid p1
  have HQ0 := Lib.hid q0
  have HB0 := Lib.hid hb0
  have HE1 := Lib.hid hE1
  clear hW1 hz1
  by_cases h0 : op.a = 0
  · have hpost : ∃ h' rs', ((stepS s op).h = h' ∧ (stepS s op).rs = rs') ∧ ((allocOk s.h = true ∧ h' = allocH s.h ∧ rs' = s.rs ++ [allocR s.h] ∧ code = (allocR s.h).a) ∨ (allocOk s.h = false ∧ h' = s.h ∧ rs' = s.rs ∧ code = -1)) := by
      cases hok : allocOk s.h
      · obtain ⟨e1, e2, e3⟩ := tell_of (stepS_full h0 hok) hc
        exact ⟨_, _, ⟨e1, e2⟩, .inr ⟨rfl, (allocH_no hok).1, rfl, e3⟩⟩
      · obtain ⟨e1, e2, e3⟩ := tell_of (stepS_alloc h0 hok) hc
        exact ⟨_, _, ⟨e1, e2⟩, .inl ⟨rfl, rfl, rfl, e3⟩⟩
    obtain ⟨h', rs', ⟨e1, e2⟩, hp⟩ := hpost
    rw [e1, e2]
    have HA := Lib.hid (play_alloc pB base _ _ _ s.h s.rs bs W1 HP1.out hsz hrs hbw1 h' rs' code hp)
    have h0' : (op.a == 0) = true := by simp [h0]
    clear hp e1 e2 hc x1 x2 p1 q0 hE1 h0
    go_enter Tryd.func48, Tryd.ntmps48
    go_wp2_with fail
    rw [← HW1.out]
    go_wp2_with (go_at_call 68; refine HA.out.mono ?_; rintro e w2 hR; obtain ⟨gv2, lv2, v82, bs2, rfl, hR2⟩ := hR)
    go_ret
    exact RetDo.from ⟨gv2, lv2, v82, bs2, rfl, hR2⟩ HB0.out
  · obtain ⟨ra, rb, ok, HEL, hok⟩ : ∃ (ra rb : Int) (ok : Bool), Hid (∀ W : World, Below W1.heap.size W1 W → Calls Tryd.prog 69 #[.slice A8 s.rs.length c8, .int .i64 op.b] W fun e w' => e = .returned (.tuple #[.agg #[.int .i64 ra, .int .i64 rb], .bool ok]) ∧ Below W.heap.size W w') ∧
        ((ok = false ∧ inB op.b 0 ((s.rs.length : Int) - 1) = false) ∨ (ok = true ∧ ∃ k : Nat, op.b = k ∧ s.rs[k]? = some ⟨ra, rb⟩)) := by
      have hrd : ∀ W : World, Below W1.heap.size W1 W → Rd W (.slice A8 s.rs.length c8) 2 s.rs.length (flc2 s.rs) := fun W hW => (owns_rd HP1.out.refs).below hW
      cases hi : inB op.b 0 ((s.rs.length : Int) - 1)
      · exact ⟨0, 0, false, Lib.hid fun W hW => elementOf_no _ s.rs op.b W (hrd W hW) hi, .inl ⟨rfl, rfl⟩⟩
      · have hib := inB_true hi
        obtain ⟨k, hk⟩ : ∃ k : Nat, op.b = k := ⟨op.b.toNat, by omega⟩
        have hkl : k < s.rs.length := by omega
        refine ⟨s.rs[k].a, s.rs[k].b, true, Lib.hid fun W hW => ?_, .inr ⟨rfl, k, hk, by rw [List.getElem?_eq_getElem hkl]⟩⟩
        rw [hk]
        exact elementOf_yes _ s.rs k s.rs[k] W (hrd W hW) (List.getElem?_eq_getElem hkl)
    have h0' : (op.a == 0) = false := by simp [h0]
    have KN : Hid (Bk ((W1.alloc (.cells #[.int .i64 0, .int .i64 0] 33)).drew) W1.heap.size #[.int .i64 0, .int .i64 0] 33) := Lib.hid (Bk.new W1 #[.int .i64 0, .int .i64 0] 33)
    have HN : Hid (Below W1.heap.size W1 (W1.alloc (.cells #[.int .i64 0, .int .i64 0] 33)).drew) := Lib.hid ((Below.refl _ W1).alloc (Nat.le_refl _) _).drew
    have HND : Hid (Below W1.heap.size W1 W1.drew) := Lib.hid (Below.refl _ W1).drew
    have HH0 := Lib.hid h0
    have HCC := Lib.hid hc
    have HOK := Lib.hid hok
    clear p1 q0 hE1 hb0 h0 hc hok
    go_enter Tryd.func48, Tryd.ntmps48
    go_wp2_with fail
    rw [← HW1.out]
    go_upto_region 3 with (fail)
    go_cut [5, 6] (fun p5 p6 wz => ∃ (g : Nat), p5 = .pointer (some ⟨g, 0, none⟩) ∧ p6 = .bool ok ∧ Bk wz g #[.int .i64 ra, .int .i64 rb] 33 ∧ W1.heap.size ≤ g ∧ Below W1.heap.size W1 wz)
    case first =>
      go_region_law (first
        | (refine step_call rfl 69 Tryd.func69 (by kernel_rfl) (by kernel_rfl) _ _ rfl #[.slice A8 s.rs.length c8, .int .i64 op.b] (by simp [Act.eval, Act.put]) (HEL.out W1.drew HND.out) ?_; rintro e w2 ⟨rfl, hb1⟩; refine ⟨_, rfl, ?_⟩; have t2 : Below W1.heap.size W1 w2 := HND.out.trans hb1)
        | (refine step_call rfl 69 Tryd.func69 (by kernel_rfl) (by kernel_rfl) _ _ rfl #[.slice A8 s.rs.length c8, .int .i64 op.b] (by simp [Act.eval, Act.put]) (HEL.out (W1.alloc (.cells #[.int .i64 0, .int .i64 0] 33)).drew HN.out) ?_; rintro e w2 ⟨rfl, hb1⟩; refine ⟨_, rfl, ?_⟩; have t2 : Below W1.heap.size W1 w2 := HN.out.trans (hb1.mono HN.out.size); have qz := KN.out.below hb1 KN.out.lt; obtain ⟨z0, f0⟩ := qz.at_ 0 (x := .int .i64 0) rfl; obtain ⟨z1, f1⟩ := qz.at_ 1 (x := .int .i64 0) rfl))
      all_goals go_wp2_with fail
      all_goals go_meet
      all_goals first
        | exact ⟨w2.heap.size, rfl, rfl, Bk.new _ _ _, t2.size, t2.alloc t2.size _⟩
        | exact ⟨W1.heap.size, rfl, rfl, by simpa using (qz.set_ 0 (.int .i64 ra)).set_ 1 (.int .i64 rb), Nat.le_refl _, (t2.setCell (Nat.le_refl _) _).setCell (Nat.le_refl _) _⟩
    case rest =>
      obtain ⟨g, rfl, rfl, hk5, hg5, hbz⟩ := hcut
      rename World => wz
      have pz := HP1.out.below hbz
      have qz := HQ0.out.below hbz lq
      have HBZ := Lib.hid (HB0.out.trans (hbz.mono HB0.out.size))
      obtain ⟨y0, -⟩ := qz.at_ 0 (x := .int .i64 op.a) rfl
      obtain ⟨y1, -⟩ := hk5.at_ 0 (x := .int .i64 ra) rfl
      obtain ⟨y2, -⟩ := hk5.at_ 1 (x := .int .i64 rb) rfl
      obtain ⟨y3, -⟩ := pz.box.at_ 0 (x := .slice A s.h.g.length c) rfl
      obtain ⟨y4, -⟩ := pz.box.at_ 1 (x := .slice B s.h.l.length d) rfl
      have HEZ := HE1.out.below hbz (Nat.le_refl _)
      have hbwz : base ≤ wz.heap.size := Nat.le_trans hbw1 hbz.size
      clear x0 x1 x2 h0' KN HN HND
      rcases HOK.out with ⟨rfl, hi⟩ | ⟨rfl, k, hk, hr⟩
      · obtain ⟨e1, e2, e3⟩ := tell_of (stepS_out HH0.out hi) HCC.out
        have EE := Lib.hid (And.intro e1 e2)
        subst e3
        have HS := Lib.hid (pz.same (c := 1) (Below.refl _ _))
        clear hi e1 e2
        go_wp2_with fail
        go_ret
        rw [EE.out.1, EE.out.2]
        exact RetDo.from HS.out HBZ.out
      · by_cases h1 : op.a = 1
        · obtain ⟨e1, e2, e3⟩ := tell_of (stepS_free h1 hk hr) HCC.out
          have EE := Lib.hid (And.intro e1 e2)
          subst e3
          have HF := Lib.hid (play_free pB base _ _ _ s.h s.rs bs ⟨ra, rb⟩ wz pz hsz hbwz HEZ)
          have h1' : (op.a == 1) = true := by simp [h1]
          clear h1 hk hr e1 e2
          go_wp2_with (go_at_call 70; refine HF.out.mono ?_; rintro e w3 hR; obtain ⟨gv2, lv2, v82, bs2, rfl, hR2⟩ := hR)
          go_ret
          rw [EE.out.1, EE.out.2]
          exact RetDo.from ⟨gv2, lv2, v82, bs2, rfl, hR2⟩ HBZ.out
        · have h1' : (op.a == 1) = false := by simp [h1]
          by_cases h2 : op.a = 2
          · obtain ⟨e1, e2, e3⟩ := tell_of (stepS_check h2 hk hr) HCC.out
            have EE := Lib.hid (And.intro e1 e2)
            have h2' : (op.a != 2) = false := by simp [h2]
            have HCK := Lib.hid (heap_check _ _ s.h ⟨ra, rb⟩ wz.drew (pz.hp.rd.below (Below.refl _ _).drew))
            have hsame := fun (w9 : World) (hb : Below wz.heap.size wz w9) (cc : Int) => pz.same (c := cc) hb
            have HS := Lib.hid hsame
            have HD : Hid (Below wz.heap.size wz wz.drew) := Lib.hid (Below.refl _ wz).drew
            clear h2 hk hr e1 e2 hsame h1
            go_upto_region 10 with (fail)
            cases hg : goodB s.h ⟨ra, rb⟩
            · obtain ⟨cc, hcc⟩ : ∃ cc, refE s.h ⟨ra, rb⟩ = .iface 69 (.int .i64 cc) := by
                cases hi : inH s.h ra
                · exact ⟨1, refE_out hi⟩
                · exact ⟨2, refE_stale hi hg⟩
              rw [hcc] at HCK
              rw [hg] at e3
              have e3' : code = 2 := e3
              subst e3'
              clear hcc hg e3
              go_region_law (refine step_call rfl 41 Tryd.func41 (by kernel_rfl) (by kernel_rfl) _ _ rfl #[.agg #[.slice A s.h.g.length c, .slice B s.h.l.length d], .agg #[.int .i64 ra, .int .i64 rb]] (by simp [Act.eval, Act.put]) HCK.out ?_; rintro e w3 ⟨rfl, hb3⟩; refine ⟨_, rfl, ?_⟩)
              all_goals go_wp2_with fail
              all_goals go_ret
              all_goals rw [EE.out.1, EE.out.2]
              all_goals exact RetDo.from (HS.out _ (HD.out.trans hb3) 2) HBZ.out
            · rw [refE_good hg] at HCK
              rw [hg] at e3
              have e3' : code = 0 := e3
              subst e3'
              clear hg e3
              go_region_law (refine step_call rfl 41 Tryd.func41 (by kernel_rfl) (by kernel_rfl) _ _ rfl #[.agg #[.slice A s.h.g.length c, .slice B s.h.l.length d], .agg #[.int .i64 ra, .int .i64 rb]] (by simp [Act.eval, Act.put]) HCK.out ?_; rintro e w3 ⟨rfl, hb3⟩; refine ⟨_, rfl, ?_⟩)
              all_goals go_wp2_with fail
              all_goals go_ret
              all_goals rw [EE.out.1, EE.out.2]
              all_goals exact RetDo.from (HS.out _ (HD.out.trans hb3) 0) HBZ.out
          · obtain ⟨e1, e2, e3⟩ := tell_of (stepS_other HH0.out h1 h2) HCC.out
            have EE := Lib.hid (And.intro e1 e2)
            subst e3
            have h2' : (op.a != 2) = true := by simp [h2]
            have HS := Lib.hid (pz.same (c := 1) (Below.refl _ _))
            clear h1 h2 hk hr e1 e2
            go_wp2_with fail
            go_ret
            rw [EE.out.1, EE.out.2]
            exact RetDo.from HS.out HBZ.out
end Go.Proofs.YtpenneklpolhgaaDoor
