/- Contracts of impl.rebuildProg, impl.PutFences and impl.StripFences. Conditions: the codes and the list of spots can be read. -/
import Derived.Test.YtgbgjlmkmlhefaaF6
import Derived.Test.YtgbgjlmkmlhefaaV12
import Derived.Deep.DeepCutAuto
import Derived.Deep.OwnRows
import Derived.Test.YtgbgjlmkmlhefaaHeads
namespace Go.Proofs.Ytgbgjlmkmlhefaa
set_option maxRecDepth 20000
set_option linter.unusedSimpArgs false
set_option linter.unusedVariables false
open Go.ChangeShapes Go.WideShapes Go.ChangeAt Go.RowKit
set_option linter.unusedVariables false
/-- the pieces that a function value hands out for every code and place, in every world behind w -/
def PieceS (P : Program) (fn : FuncId) (cap : Array Value) (G : Nat → List Ins → Nat → List Ins) (w : World) : Prop :=
  ∀ (cv : Value) (xs : List Ins) (t k : Nat) (W : World), Below w.heap.size w W → Rd W cv 4 xs.length (flc xs) → k ≤ xs.length → xs.length ≤ 16 →
    Calls P fn (#[cv, .agg #[.int .i64 t, .int .i64 k]] ++ cap) W fun e w' => ∃ r, e = .returned r ∧ Rd w' r 4 (G t xs k).length (flc (G t xs k)) ∧ Below W.heap.size W w'
theorem PieceS.below {P : Program} {fn : FuncId} {cap : Array Value} {G : Nat → List Ins → Nat → List Ins} {w w' : World} (h : PieceS P fn cap G w) (hb : Below w.heap.size w w') : PieceS P fn cap G w' :=
  fun cv xs t k W hW => h cv xs t k W (hb.trans (hW.mono hb.size))
set_option maxHeartbeats 800000 in
theorem impl_rebuildPiece (b0 b1 b2 : Nat) (cv : Value) (xs : List Ins) (t k : Nat) (fn : FuncId) (cap : Array Value) (G : Nat → List Ins → Nat → List Ins) (w : World) (eg : ∀ args w, (callFunc fn args).run Try.prog w = .ok (.enter fn args) w)
    (k0 : Bk w b0 #[.func (.func fn) #[] cap] 80) (k1 : Bk w b1 #[cv] 57) (k2 : Bk w b2 #[.int .i64 t] 3) (hP : PieceS Try.prog fn cap G w) (h : Rd w cv 4 xs.length (flc xs)) (hkl : k ≤ xs.length) (hsz : xs.length ≤ 16) :
    Calls Try.prog 82 #[.int .i64 k, .pointer (some ⟨b0, 0, none⟩), .pointer (some ⟨b1, 0, none⟩), .pointer (some ⟨b2, 0, none⟩)] w fun e w' => ∃ r, e = .returned r ∧ Rd w' r 4 (G t xs k).length (flc (G t xs k)) ∧ Below w.heap.size w w' := by
  obtain ⟨Ac, cc, rfl, -, -, -, -⟩ := id h
  obtain ⟨c0, -⟩ := k0.at_ 0 (x := .func (.func fn) #[] cap) rfl
  obtain ⟨c1, -⟩ := k1.at_ 0 (x := .slice Ac xs.length cc) rfl
  obtain ⟨c2, -⟩ := k2.at_ 0 (x := .int .i64 t) rfl
  have HC := Lib.hid (hP (.slice Ac xs.length cc) xs t k w (Below.refl _ _) h hkl hsz)
  clear hP h k0 k1 k2
  go_enter Try.func82, Try.ntmps82
  go_wp2_with fail
  refine HC.out.mono ?_
  rintro e w1 ⟨r, rfl, h1, hb1⟩
  go_wp2_with fail
  go_ret
  exact ⟨_, rfl, h1, hb1⟩
theorem run_makeRows (n : Nat) (hn : n ≤ 16) (W : World) : (Instr.makeSlice 31 (.int .i64 n) (.int .i64 n)).run Try.prog W = .ok (.slice (some ⟨W.heap.size, 0, none⟩) n n) (W.alloc (.cells (madeCells #[.slice none 0 0] n) 57)) := by
  have h := run_make_row' (P := Try.prog) 31 57 (.slice none 0 0) 24 Try.underlying31 infoCodes rfl .i64 .i64 n (by omega) (by omega) W
  simpa using h
/-- a program of its own -/
def RetPr (q : Pr) (w : World) (e : Ending) (w' : World) : Prop := ∃ v' bs, e = .returned (.agg #[.int .i64 q.c, v']) ∧ OwnSS w' v' q.x bs ∧ (∀ b ∈ bs, w.heap.size ≤ b) ∧ Below w.heap.size w w'
set_option maxHeartbeats 6400000 in
theorem impl_rebuildProg (v : Value) (p : Pr) (fn : FuncId) (cap : Array Value) (G : Nat → List Ins → Nat → List Ins) (w : World) (h : RdSS w v p.x) (hok : progOkF p = true) (eg : ∀ args w, (callFunc fn args).run Try.prog w = .ok (.enter fn args) w)
    (hP : PieceS Try.prog fn cap G w) (hG : ∀ t xs i, (G t xs i).length ≤ 2) (hT : ∀ t xs, tgtOk xs = true → ∀ k, ∀ i ∈ G t xs k, i.o = 6 → 0 ≤ i.n ∧ i.n ≤ xs.length) :
    Calls Try.prog 51 #[.agg #[.int .i64 p.c, v], .func (.func fn) #[] cap] w (RetPr ⟨p.c, outX G p.x p.x.length⟩ w) := by
  have hmf : ∀ (fn : Fn) (first cap : Array Value) (w : World), (Instr.makeFunc fn first cap).run Try.prog w = .ok (.func fn first cap) w := fun _ _ _ _ => rfl
  obtain ⟨vs, ⟨A, c, rfl, -, hnc, hc, hr⟩, hin⟩ := id h
  unfold maxLen at hc
  have hpp := progOk_parts hok
  have hpl := hpp.2.1
  obtain ⟨b, o, rfl, hb, hcell⟩ := hr (by omega)
  have k0 := ((Bk.new w #[.int .i64 p.c, .slice (some ⟨b, o, none⟩) p.x.length c] 33).alloc (.cells #[.func (.func fn) #[] cap] 80)).alloc (.cells #[.int .i64 0, .slice none 0 0] 33)
  have k1 := (Bk.new (w.alloc (.cells #[.int .i64 p.c, .slice (some ⟨b, o, none⟩) p.x.length c] 33)) #[.func (.func fn) #[] cap] 80).alloc (.cells #[.int .i64 0, .slice none 0 0] 33)
  have k2 := Bk.new ((w.alloc (.cells #[.int .i64 p.c, .slice (some ⟨b, o, none⟩) p.x.length c] 33)).alloc (.cells #[.func (.func fn) #[] cap] 80)) #[.int .i64 0, .slice none 0 0] 33
  have hB0 := (((Below.refl w.heap.size w).alloc (Nat.le_refl _) (.cells #[.int .i64 p.c, .slice (some ⟨b, o, none⟩) p.x.length c] 33)).alloc (by simp) (.cells #[.func (.func fn) #[] cap] 80)).alloc (by simp; omega) (.cells #[.int .i64 0, .slice none 0 0] 33)
  simp only [World.size_alloc, Nat.add_assoc] at k1 k2
  obtain ⟨W, hW⟩ : ∃ W, ((w.alloc (.cells #[.int .i64 p.c, .slice (some ⟨b, o, none⟩) p.x.length c] 33)).alloc (.cells #[.func (.func fn) #[] cap] 80)).alloc (.cells #[.int .i64 0, .slice none 0 0] 33) = W := ⟨_, rfl⟩
  rw [hW] at k0 k1 k2 hB0
  have hsW : W.heap.size = w.heap.size + 3 := by rw [← hW]; simp
  have HW := Lib.hid hW
  obtain ⟨M0, hM0⟩ : ∃ M0, madeCells #[Value.slice none 0 0] p.x.length = M0 := ⟨_, rfl⟩
  have hmk := run_makeRows p.x.length (by omega)
  rw [hM0] at hmk
  obtain ⟨c0, -⟩ := k0.at_ 0 (x := .int .i64 p.c) rfl
  obtain ⟨c1, -⟩ := k0.at_ 1 (x := .slice (some ⟨b, o, none⟩) p.x.length c) rfl
  have l0 := k0.lt
  have HB0 := Lib.hid hB0
  have K0 := Lib.hid k0
  have K1 := Lib.hid k1
  have K2 := Lib.hid k2
  have HSW := Lib.hid hsW
  clear hW k0 k1 k2 hB0 hr h hsW
  go_enter Try.func51, Try.ntmps51
  go_upto_region 1 with (fail)
  rw [HW.out]
  go_cut [5] (fun ptr wc => ∃ g gm : Nat, ptr = .pointer (some ⟨g, 0, none⟩) ∧ Bk wc g #[.int .i64 p.c, .slice (some ⟨gm, 0, none⟩) p.x.length p.x.length] 33 ∧ Bk wc gm M0 57 ∧ W.heap.size ≤ g ∧ W.heap.size ≤ gm ∧ g ≠ gm ∧ Below W.heap.size W wc)
  case first =>
    go_region
    all_goals go_wp2_with fail
    all_goals go_meet
    · refine ⟨_, _, rfl, ?_, ?_, Nat.le_succ _, Nat.le_refl _, by omega, ?_⟩
      · have := Bk.new (W.alloc (.cells M0 57)) #[.int .i64 p.c, .slice (some ⟨W.heap.size, 0, none⟩) p.x.length p.x.length] 33
        rw [World.size_alloc] at this
        exact this
      · exact (Bk.new W M0 57).alloc (.cells #[.int .i64 p.c, .slice (some ⟨W.heap.size, 0, none⟩) p.x.length p.x.length] 33)
      · exact (((Below.refl _ _).alloc (Nat.le_refl _) _).alloc (by simp) _).drew
    · refine ⟨_, _, rfl, ?_, ?_, Nat.le_refl _, Nat.le_succ _, by omega, ?_⟩
      · exact (Bk.new W #[.int .i64 p.c, .slice (some ⟨W.heap.size + 1, 0, none⟩) p.x.length p.x.length] 33).alloc (.cells M0 57)
      · have := Bk.new (W.alloc (.cells #[.int .i64 p.c, .slice (some ⟨W.heap.size + 1, 0, none⟩) p.x.length p.x.length] 33)) M0 57
        rw [World.size_alloc] at this
        exact this
      · exact (((Below.refl _ _).alloc (Nat.le_refl _) _).alloc (by simp) _).drew
  obtain ⟨g, gm, rfl, kg, km, hg0, hm0, hgm, hBc⟩ := hcut
  rename World => wc
  have hM0l : M0.toList = List.replicate p.x.length (.slice none 0 0) := by rw [← hM0, toList_madeCells_one]
  have hO0 : wc.ownsRow W.heap.size 57 1 (.slice (some ⟨gm, 0, none⟩) p.x.length p.x.length) p.x.length ([] ++ List.replicate (p.x.length - 0) (.slice none 0 0)) :=
    ⟨by simp, .inr ⟨gm, p.x.length, M0, rfl, hm0, km, Nat.le_refl _, by unfold maxLen; omega, by rw [← hM0, size_madeCells]; omega, by rw [hM0l]; simp⟩⟩
  have k0c := K0.out.below hBc K0.out.lt
  obtain ⟨d1, -⟩ := k0c.at_ 1 (x := .slice (some ⟨b, o, none⟩) p.x.length c) rfl
  have HP := Lib.hid hP
  have HPP := Lib.hid hpp
  clear km c0 c1 l0 hM0 hM0l k0c hP hpp hmk
  go_wp2_with fail
  clear d1
  go_loopw [18] (fun i wr => ∃ (k : Nat) (us : List Value) (bss : List (List Nat)), k ≤ p.x.length ∧ i = .int .i64 k ∧ Hid (us.length = k) ∧ wr.ownsRow W.heap.size 57 1 (.slice (some ⟨gm, 0, none⟩) p.x.length p.x.length) p.x.length (us ++ List.replicate (p.x.length - k) (.slice none 0 0)) ∧
    InSS wr us (outX G p.x k) bss ∧ Hid (∀ b ∈ bss.flatten, W.heap.size ≤ b ∧ b ≠ g ∧ b ≠ gm) ∧ Below W.heap.size W wr ∧ Bk wr g #[.int .i64 p.c, .slice (some ⟨gm, 0, none⟩) p.x.length p.x.length] 33) (fun i _ => p.x.length - (intOf i).toNat)
  case atStart => exact ⟨0, [], [], Nat.zero_le _, rfl, Lib.hid rfl, hO0, trivial, Lib.hid (by simp), hBc, kg⟩
  case round =>
    obtain ⟨k, us, bss, hk, rfl, HL, hO, hI, HBS, hB, kgr⟩ := hrel
    clear hO0 hBc kg
    by_cases hlt : k < p.x.length
    · obtain ⟨xs, hxk⟩ : ∃ xs, p.x[k]? = some xs := ⟨_, List.getElem?_eq_getElem hlt⟩
      obtain ⟨ck, hck, hrk⟩ := hin.at_ hxk
      have hBW : Below w.heap.size w wr := HB0.out.trans (hB.mono HB0.out.size)
      have hx := (hBW.cell (p := ⟨b, o + k, none⟩) hb).trans (hcell k _ hck)
      have hrk' := hrk.below hBW
      have hco := HPP.out.2.2 xs (List.mem_of_getElem? hxk)
      have hx16 := codeOk_len hco
      have htg := codeOk_tgt hco
      obtain ⟨Ak, dk, rfl, -, hncx, hcx, -⟩ := id hrk'
      unfold maxLen at hcx
      have k6 := (Bk.new wr #[.int .i64 k] 3).alloc (.cells #[.slice Ak xs.length dk] 57)
      have k7 := Bk.new (wr.alloc (.cells #[.int .i64 k] 3)) #[.slice Ak xs.length dk] 57
      simp only [World.size_alloc] at k7
      have hWv : Below wr.heap.size wr ((wr.alloc (.cells #[.int .i64 k] 3)).alloc (.cells #[.slice Ak xs.length dk] 57)) := ((Below.refl _ _).alloc (Nat.le_refl _) _).alloc (by simp) _
      obtain ⟨wv, hwv⟩ : ∃ wv, (wr.alloc (.cells #[.int .i64 k] 3)).alloc (.cells #[.slice Ak xs.length dk] 57) = wv := ⟨_, rfl⟩
      rw [hwv] at k6 k7 hWv
      have hszv : wv.heap.size = wr.heap.size + 2 := by rw [← hwv]; simp
      have HWV := Lib.hid hwv
      have hBv := hB.trans (hWv.mono hB.size)
      have kgv := kgr.below hWv kgr.lt
      have hPk : Pieces Try.prog 82 #[.pointer (some ⟨w.heap.size + 1, 0, none⟩), .pointer (some ⟨wr.heap.size + 1, 0, none⟩), .pointer (some ⟨wr.heap.size, 0, none⟩)] (G k xs) xs.length wv.drew := fun j U hj hU => by
        have hvU : Below wv.heap.size wv U := (Below.refl _ _).drew.trans hU
        have hWU := hBv.trans (hvU.mono hBv.size)
        exact impl_rebuildPiece _ _ _ _ xs k j fn cap G U eg (K1.out.below hWU K1.out.lt) (k7.below hvU k7.lt) (k6.below hvU k6.lt) (HP.out.below (HB0.out.trans (hWU.mono HB0.out.size))) ((hrk'.below hWv).below hvU) hj hx16
      have HRB := Lib.hid (impl_rebuild Ak xs.length dk 82 #[.pointer (some ⟨w.heap.size + 1, 0, none⟩), .pointer (some ⟨wr.heap.size + 1, 0, none⟩), .pointer (some ⟨wr.heap.size, 0, none⟩)] (G k xs) wv.drew hx16 hncx hcx (enters_of Try.func82 (by kernel_rfl) rfl) hPk (hG k xs) (fun j i hi h6 => hT k xs htg j i hi h6))
      have P0 := Past.cell k6.lt (k6.at_ 0 (x := .int .i64 k) rfl).1
      have P1 := Past.cell k7.lt (k7.at_ 0 (x := .slice Ak xs.length dk) rfl).1
      have P2 := Past.cell kgv.lt (kgv.at_ 1 (x := .slice (some ⟨gm, 0, none⟩) p.x.length p.x.length) rfl).1
      have HOX := Lib.hid (outX_snoc G hxk)
      have hOv := ownsRow_below hO hWv
      have hIv : InSS wv us (outX G p.x k) bss := InSS.of_blocks hWv.size hI (fun b hb => hWv.block b (InSS.lt hI b hb))
      have hilt := InSS.lt hI
      have hgml := (hO.lt gm rfl).2
      have HV := Lib.hid (And.intro hOv (And.intro hIv (And.intro hilt (And.intro hBv (And.intro kgv (And.intro hszv hgml))))))
      obtain ⟨L, hL⟩ : ∃ L, rebF (G k xs) xs.length = L := ⟨_, rfl⟩
      rw [hL] at HRB HOX
      clear hwv hxk hck hrk hrk' hco htg k6 k7 hPk kgr kgv hO hI hB hOv hIv hilt hBv hL hcell hin hBW
      go_upto_region 5 with (fail)
      rw [HWV.out]
      clear hx
      refine wp_region_two 7 7 (fun w' => ∃ q : Past wv, w' = q.v) (fun _ => True) (by kernel_rfl) ?_
      refine wpAnyX_pass (C := (fun w' => ∃ q : Past wv, w' = q.v)) (some false) [true, true, true, true] rfl (by kernel_rfl) (fun _ _ t _ _ h => by cases t <;> exact h) ⟨fun _ => ⟨⟨wv.drew, (Below.refl _ _).drew⟩, rfl⟩, fun _ => trivial⟩ ?_
      simp only [keepOps]
      repeat (go_big_quiet_step (fail))
      refine wpQuiet_nil ?_
      clear P0 P1 P2
      refine wpAnyX_one 4 rfl (by kernel_rfl) (by kernel_rfl) ?_
      go_wp2_with fail
      refine ⟨⟨fun _ => ⟨⟨wv.drew, (Below.refl _ _).drew⟩, rfl⟩, fun _ => trivial⟩, ?_⟩
      refine wpAnyX_one 5 rfl (by kernel_rfl) (by kernel_rfl) ?_
      go_wp2_with fail
      refine HRB.out.mono ?_
      rintro e w9 ⟨r, rfl, ho9, hb9'⟩
      have hb9 := (Below.refl wv.heap.size wv).drew.trans hb9'
      obtain ⟨AR, cR, rfl, -, -⟩ := owns_slice ho9
      obtain ⟨hOv, hIv, hilt, hBv, kgv, hszv, hgml⟩ := HV.out
      have hO9 := ownsRow_below hOv hb9
      have hI9 : InSS w9 us (outX G p.x k) bss := InSS.of_blocks hb9.size hIv (fun b hb => hb9.block b (InSS.lt hIv b hb))
      have hB9 := hBv.trans (hb9.mono hBv.size)
      have kg9 := kgv.below hb9 kgv.lt
      obtain ⟨bsr, hown9, hlo9'⟩ := Own.of_owns ho9
      have hlo9 : ∀ b ∈ bsr, wv.heap.size ≤ b := hlo9'
      have hcA := (hO9.cellAt k (by omega)).trans (show (us ++ List.replicate (p.x.length - k) (Value.slice none 0 0))[k]? = some (.slice none 0 0) by rw [List.getElem?_append_right (by rw [HL.out]; omega), List.getElem?_replicate, if_pos (by rw [HL.out]; omega)])
      have hfA := hO9.frozenAt k
      have hO3 := (hO9.stored k (.slice AR L.length cR)).1
      have hset : (us ++ List.replicate (p.x.length - k) (Value.slice none 0 0)).set k (Value.slice AR L.length cR) = (us ++ [Value.slice AR L.length cR]) ++ List.replicate (p.x.length - (k + 1)) (.slice none 0 0) := by
        rw [List.set_append, if_neg (by rw [HL.out]; omega), HL.out, Nat.sub_self, show p.x.length - k = (p.x.length - (k + 1)) + 1 from by omega, List.replicate_succ, List.set_cons_zero, List.append_assoc]
        rfl
      rw [hset] at hO3
      have hI3 := InSS.snoc (hown9.far (b := gm) (i := k) (u := .slice AR L.length cR) fun q hq => by have := hlo9 q hq; omega) (InSS.of_blocks (w' := w9.setCell ⟨gm, k, none⟩ (.slice AR L.length cR)) (by simp [World.setCell]) hI9 (fun b hb => Below.heap_setCell _ _ _ _ (HBS.out b hb).2.2))
        (fun x hx y hy => by have := hilt x hx; have := hlo9 y hy; omega)
      rw [← HOX.out] at hI3
      have hB3 := hB9.setCell (p := ⟨gm, k, none⟩) hm0 (.slice AR L.length cR)
      have kg3 := kg9.far (p := ⟨gm, k, none⟩) hgm (.slice AR L.length cR)
      have HBS3 : Hid (∀ b ∈ (bss ++ [bsr]).flatten, W.heap.size ≤ b ∧ b ≠ g ∧ b ≠ gm) := Lib.hid fun b hb => by
        rw [List.flatten_append] at hb
        rcases List.mem_append.1 hb with hb | hb
        · exact HBS.out b hb
        · have h1 := hlo9 b (by simpa using hb)
          have h2 := kgv.lt
          have h3 := hBv.size
          omega
      have HE := Lib.hid (And.intro hO3 (And.intro hI3 (And.intro hB3 kg3)))
      clear hset hO3 hI3 hB3 kg3 hO9 hI9 hB9 kg9 hown9 hlo9 hlo9' ho9 hOv hIv hilt hBv kgv hb9'
      go_wp2_with fail
      refine ⟨⟨fun _ => ⟨⟨w9, hb9⟩, rfl⟩, fun _ => trivial⟩, ?_⟩
      refine wpAnyX_pass (C := (fun _ => True)) none [false, false, false, false, false, false, true] rfl (by kernel_rfl) (fun _ _ t _ _ h => by cases t <;> exact h) ⟨fun _ => ⟨⟨w9, hb9⟩, rfl⟩, fun _ => trivial⟩ ?_
      simp only [keepOps]
      repeat (go_big_quiet_step (fail))
      refine wpQuiet_nil ?_
      refine wpAnyX_one 7 rfl (by kernel_rfl) (by kernel_rfl) ?_
      go_wp2_with fail
      refine ⟨⟨fun h => absurd (show true = false from h) (by decide), fun _ => trivial⟩, ?_⟩
      refine wpAnyX_done (by kernel_rfl) ?_
      go_wp2_with fail
      exact ⟨⟨k + 1, _, _, by omega, by go_num, Lib.hid (by simp [HL.out]), HE.out.1, HE.out.2.1, HBS3, HE.out.2.2.1, HE.out.2.2.2⟩, by simp [intOf]; omega⟩
    · obtain rfl : k = p.x.length := by omega
      rw [Nat.sub_self, List.replicate_zero, List.append_nil] at hO
      have k2r := K2.out.below hB K2.out.lt
      obtain ⟨x0, e0⟩ := kgr.at_ 0 (x := .int .i64 p.c) rfl
      obtain ⟨x1, e1⟩ := kgr.at_ 1 (x := .slice (some ⟨gm, 0, none⟩) p.x.length p.x.length) rfl
      obtain ⟨y0, f0⟩ := k2r.at_ 0 (x := .int .i64 0) rfl
      have k2a := k2r.set_ 0 (.int .i64 p.c)
      obtain ⟨y1, f1⟩ := k2a.at_ 1 (x := .slice none 0 0) rfl
      have k2b := k2a.set_ 1 (.slice (some ⟨gm, 0, none⟩) p.x.length p.x.length)
      obtain ⟨r0, -⟩ := k2b.at_ 0 (x := .int .i64 p.c) rfl
      obtain ⟨r1, -⟩ := k2b.at_ 1 (x := .slice (some ⟨gm, 0, none⟩) p.x.length p.x.length) rfl
      obtain ⟨b9, h1, h2⟩ := Own.of_owns hO
      have hbg : ∀ q ∈ b9, q = gm := by
        obtain ⟨A', c', he, -, -, -, ⟨h0, -⟩ | ⟨-, b', o', hA, rfl, -⟩⟩ := h1
        · omega
        · injection he with he
          rw [hA] at he
          injection he with he
          injection he with he
          simp [← he]
      have hOS : OwnSS wr (.slice (some ⟨gm, 0, none⟩) p.x.length p.x.length) (outX G p.x p.x.length) (b9 ++ bss.flatten) := ⟨us, b9, bss, by rw [outX_len]; exact h1, hI, rfl, fun x hx y hy => by have := hbg x hx; have := (HBS.out y hy).2.2; omega⟩
      have hbl : ∀ q ∈ b9 ++ bss.flatten, W.heap.size ≤ q := fun q hq => by
        rcases List.mem_append.1 hq with hq | hq
        · exact h2 q hq
        · exact (HBS.out q hq).1
      have hsw := HSW.out
      have hOF := (hOS.far (b := w.heap.size + 2) (i := 0) (u := .int .i64 p.c) fun q hq => by have := hbl q hq; omega).far (b := w.heap.size + 2) (i := 1) (u := .slice (some ⟨gm, 0, none⟩) p.x.length p.x.length) fun q hq => by have := hbl q hq; omega
      have hBF := ((HB0.out.trans (hB.mono HB0.out.size)).setCell (p := ⟨w.heap.size + 2, 0, none⟩) (by show w.heap.size ≤ w.heap.size + 2; omega) (.int .i64 p.c)).setCell (p := ⟨w.heap.size + 2, 1, none⟩) (by show w.heap.size ≤ w.heap.size + 2; omega) (.slice (some ⟨gm, 0, none⟩) p.x.length p.x.length)
      have HE := Lib.hid (And.intro hOF (And.intro hBF fun q hq => Nat.le_trans (by omega : w.heap.size ≤ W.heap.size) (hbl q hq)))
      clear hOF hBF hOS hbl hbg h1 h2 hsw hO hI hB k2r k2a k2b
      go_wp2_with fail
      exact bodyPost_ret (v := .agg #[.int .i64 p.c, .slice (some ⟨gm, 0, none⟩) p.x.length p.x.length]) (by simp [results, Try.results51, go_sem, r0, r1]) rfl ⟨_, _, rfl, HE.out.1, HE.out.2.2, HE.out.2.1⟩
/-- a program of its own and a bool -/
def RetPrB (q : Pr) (ok : Bool) (w : World) (e : Ending) (w' : World) : Prop := ∃ v' bs, e = .returned (.tuple #[.agg #[.int .i64 q.c, v'], .bool ok]) ∧ OwnSS w' v' q.x bs ∧ (∀ b ∈ bs, w.heap.size ≤ b) ∧ Below w.heap.size w w'
theorem putP_le (ss : List P2) : ∀ t xs i, (putP ss t xs i).length ≤ 2 := fun t xs i => putP_len ss t xs i
theorem strP_le : ∀ t xs i, (strP t xs i).length ≤ 2 := fun t xs i => Nat.le_trans (strP_len t xs i) (by omega)
theorem outX_tot (G : Nat → List Ins → Nat → List Ins) (hG : ∀ t xs i, (G t xs i).length ≤ 2) {p : Pr} (h : progOkF p = true) : totSS (outX G p.x p.x.length) ≤ 120 := by
  have h1 := (progOk_parts h).2.1
  have key : ∀ k, ((outX G p.x k).map List.length).sum ≤ 34 * k := by
    intro k
    induction k with
    | zero => simp [outX]
    | succ k ih =>
      have e : outX G p.x (k + 1) = outX G p.x k ++ [rebF (G k (codeAt p.x k)) (codeAt p.x k).length] := by simp [outX, List.range_succ]
      rw [e, List.map_append, List.sum_append]
      have h2 := pcs_len (hG k (codeAt p.x k)) ((codeAt p.x k).length + 1)
      have h3 := codeAt_len h k
      simp only [List.map_cons, List.map_nil, List.sum_cons, List.sum_nil, rebF_len]
      omega
  have := key p.x.length
  unfold totSS
  rw [outX_len]
  omega
theorem putF_tot (p : Pr) (ss : List P2) : totSS ((putF p ss).getD ⟨0, []⟩).x ≤ 120 := by
  unfold putF
  split
  · rename_i h
    exact outX_tot _ (putP_le ss) h.1
  · simp [totSS]
theorem strF_tot (p : Pr) : totSS ((strF p).getD ⟨0, []⟩).x ≤ 120 := by
  unfold strF
  split
  · rename_i h
    exact outX_tot _ strP_le h
  · simp [totSS]
set_option maxHeartbeats 6400000 in
theorem impl_PutFences (v sv : Value) (p : Pr) (ss : List P2) (w : World) (h : RdSS w v p.x) (hs : Rd w sv 2 ss.length (flc2 ss)) :
    Calls Try.prog 19 #[.agg #[.int .i64 p.c, v], sv] w (RetPrB ((putF p ss).getD ⟨0, []⟩) (putF p ss).isSome w) := by
  have hmf : ∀ (fn : Fn) (first cap : Array Value) (w : World), (Instr.makeFunc fn first cap).run Try.prog w = .ok (.func fn first cap) w := fun _ _ _ _ => rfl
  obtain ⟨vs, ⟨A, c, rfl, -, -, -, -⟩, -⟩ := id h
  obtain ⟨As, cs, rfl, -, -, -, -⟩ := id hs
  have k0 := ((Bk.new w #[.int .i64 p.c, .slice A p.x.length c] 33).alloc (.cells #[.slice As ss.length cs] 41)).alloc (.cells #[.int .i64 0, .slice none 0 0] 33)
  have k1 := (Bk.new (w.alloc (.cells #[.int .i64 p.c, .slice A p.x.length c] 33)) #[.slice As ss.length cs] 41).alloc (.cells #[.int .i64 0, .slice none 0 0] 33)
  have k2 := Bk.new ((w.alloc (.cells #[.int .i64 p.c, .slice A p.x.length c] 33)).alloc (.cells #[.slice As ss.length cs] 41)) #[.int .i64 0, .slice none 0 0] 33
  have hB0 := (((Below.refl w.heap.size w).alloc (Nat.le_refl _) (.cells #[.int .i64 p.c, .slice A p.x.length c] 33)).alloc (by simp) (.cells #[.slice As ss.length cs] 41)).alloc (by simp; omega) (.cells #[.int .i64 0, .slice none 0 0] 33)
  simp only [World.size_alloc, Nat.add_assoc] at k1 k2
  obtain ⟨W, hW⟩ : ∃ W, ((w.alloc (.cells #[.int .i64 p.c, .slice A p.x.length c] 33)).alloc (.cells #[.slice As ss.length cs] 41)).alloc (.cells #[.int .i64 0, .slice none 0 0] 33) = W := ⟨_, rfl⟩
  rw [hW] at k0 k1 k2 hB0
  have hsW : W.heap.size = w.heap.size + 3 := by rw [← hW]; simp
  have HW := Lib.hid hW
  have HB0 := Lib.hid hB0
  have HR := Lib.hid (h.below hB0)
  have HS := Lib.hid (hs.below hB0)
  have HC := impl_ProgOk _ p _ HR.out
  have K0 := Lib.hid k0
  have K1 := Lib.hid k1
  have K2 := Lib.hid k2
  have HSW := Lib.hid hsW
  obtain ⟨c0, -⟩ := k0.at_ 0 (x := .int .i64 p.c) rfl
  obtain ⟨c1, -⟩ := k0.at_ 1 (x := .slice A p.x.length c) rfl
  have HNONE : Hid (∀ (W' : World) (H : Below W.heap.size W W'), (putF p ss = none) → Own W' (.slice none 0 0) 1 0 [] [] ∧ RetPrB ((putF p ss).getD ⟨0, []⟩) (putF p ss).isSome w (.returned (.tuple #[.agg #[.int .i64 0, .slice none 0 0], .bool false])) ((W'.setCell ⟨w.heap.size + 2, 0, none⟩ (.int .i64 0)).setCell ⟨w.heap.size + 2, 1, none⟩ (.slice none 0 0))) := Lib.hid fun W' H hn =>
    ⟨Own.nil _ _, _, [], by rw [hn]; rfl, by rw [hn]; exact OwnSS.nil _, by simp, ((HB0.out.trans (H.mono HB0.out.size)).setCell (p := ⟨w.heap.size + 2, 0, none⟩) (by show w.heap.size ≤ w.heap.size + 2; omega) _).setCell (p := ⟨w.heap.size + 2, 1, none⟩) (by show w.heap.size ≤ w.heap.size + 2; omega) _⟩
  clear hW k0 k1 k2 hB0 h hs hsW
  cases hok : progOkF p
  · have HN : Hid (putF p ss = none) := Lib.hid (by simp [putF, hok])
    rw [hok] at HC
    have HC := Lib.hid HC
    clear hok
    go_enter Try.func19, Try.ntmps19
    go_upto_region 1 with (fail)
    rw [HW.out]
    go_wp2_with fail
    refine HC.out.mono ?_
    rintro e w1 ⟨rfl, hb1⟩
    have kz := (K2.out.below hb1 K2.out.lt)
    obtain ⟨y0, f0⟩ := kz.at_ 0 (x := .int .i64 0) rfl
    have kza := kz.set_ 0 (.int .i64 0)
    obtain ⟨y1, f1⟩ := kza.at_ 1 (x := .slice none 0 0) rfl
    have kzb := kza.set_ 1 (.slice none 0 0)
    obtain ⟨r0, -⟩ := kzb.at_ 0 (x := .int .i64 0) rfl
    obtain ⟨r1, -⟩ := kzb.at_ 1 (x := .slice none 0 0) rfl
    clear kz kza kzb
    go_wp2_with fail
    exact bodyPost_ret (v := .tuple #[.agg #[.int .i64 0, .slice none 0 0], .bool false]) (by simp [results, Try.results19, go_sem, r0, r1]) rfl (HNONE.out _ hb1 HN.out).2
  · have HOK := Lib.hid hok
    rw [hok] at HC
    have HC := Lib.hid HC
    clear hok
    have hT := fun (w1 : World) (hb : Below W.heap.size W w1) => impl_spotsOk _ _ ss p w1 (HS.out.below hb) (HR.out.below hb)
    cases hsp : spotsB p ss
    · have HN : Hid (putF p ss = none) := Lib.hid (by simp [putF, hsp])
      rw [hsp] at hT
      have HT := Lib.hid hT
      clear hsp hT
      go_enter Try.func19, Try.ntmps19
      go_upto_region 1 with (fail)
      rw [HW.out]
      go_wp2_with fail
      refine HC.out.mono ?_
      rintro e w1 ⟨rfl, hb1⟩
      have k01 := K0.out.below hb1 K0.out.lt
      have k11 := K1.out.below hb1 K1.out.lt
      obtain ⟨d0, -⟩ := k01.at_ 0 (x := .int .i64 p.c) rfl
      obtain ⟨d1, -⟩ := k01.at_ 1 (x := .slice A p.x.length c) rfl
      obtain ⟨d2, -⟩ := k11.at_ 0 (x := .slice As ss.length cs) rfl
      go_wp2_with fail
      refine (HT.out _ hb1).mono ?_
      rintro e w2 ⟨rfl, hb2'⟩
      have hb2 := hb1.trans (hb2'.mono hb1.size)
      have kz := (K2.out.below hb2 K2.out.lt)
      obtain ⟨y0, f0⟩ := kz.at_ 0 (x := .int .i64 0) rfl
      have kza := kz.set_ 0 (.int .i64 0)
      obtain ⟨y1, f1⟩ := kza.at_ 1 (x := .slice none 0 0) rfl
      have kzb := kza.set_ 1 (.slice none 0 0)
      obtain ⟨r0, -⟩ := kzb.at_ 0 (x := .int .i64 0) rfl
      obtain ⟨r1, -⟩ := kzb.at_ 1 (x := .slice none 0 0) rfl
      clear kz kza kzb
      clear hb2' d0 d1 d2 k01 k11
      go_wp2_with fail
      exact bodyPost_ret (v := .tuple #[.agg #[.int .i64 0, .slice none 0 0], .bool false]) (by simp [results, Try.results19, go_sem, r0, r1]) rfl (HNONE.out _ hb2 HN.out).2
    · have HSP := Lib.hid hsp
      rw [hsp] at hT
      have HT := Lib.hid hT
      clear hsp hT
      go_enter Try.func19, Try.ntmps19
      go_upto_region 1 with (fail)
      rw [HW.out]
      go_wp2_with fail
      refine HC.out.mono ?_
      rintro e w1 ⟨rfl, hb1⟩
      have k01 := K0.out.below hb1 K0.out.lt
      have k11 := K1.out.below hb1 K1.out.lt
      obtain ⟨d0, -⟩ := k01.at_ 0 (x := .int .i64 p.c) rfl
      obtain ⟨d1, -⟩ := k01.at_ 1 (x := .slice A p.x.length c) rfl
      obtain ⟨d2, -⟩ := k11.at_ 0 (x := .slice As ss.length cs) rfl
      go_wp2_with fail
      refine (HT.out _ hb1).mono ?_
      rintro e w2 ⟨rfl, hb2'⟩
      have hb2 := hb1.trans (hb2'.mono hb1.size)
      have k12 := K1.out.below hb2 K1.out.lt
      have hs2 := HS.out.below hb2
      have hPS : PieceS Try.prog 52 #[.pointer (some ⟨w.heap.size + 1, 0, none⟩)] (putP ss) w2 := fun cv xs t k U hU hx hk h16 => impl_putPiece _ _ _ ss xs t k U (k12.below hU k12.lt) (hs2.below hU) hx hk h16
      have HRP := Lib.hid (impl_rebuildProg _ p 52 #[.pointer (some ⟨w.heap.size + 1, 0, none⟩)] (putP ss) w2 (HR.out.below hb2) HOK.out (enters_of Try.func52 (by kernel_rfl) rfl) hPS (putP_le ss) (fun t xs h k i hi h6 => putP_tgt h hi h6))
      clear hb2' d0 d1 d2 k01 k11 hPS hs2 k12
      have k02 := K0.out.below hb2 K0.out.lt
      obtain ⟨d0, -⟩ := k02.at_ 0 (x := .int .i64 p.c) rfl
      obtain ⟨d1, -⟩ := k02.at_ 1 (x := .slice A p.x.length c) rfl
      go_wp2_with fail
      refine HRP.out.mono ?_
      rintro e w3 ⟨v3, bs3, rfl, ho3, hlo3, hb3'⟩
      have hb3 := hb2.trans (hb3'.mono hb2.size)
      obtain ⟨A3, c3, rfl, -, -⟩ := ho3.slice
      have HO3 := Lib.hid (And.intro ho3 hlo3)
      have hBq := (Below.refl w3.heap.size w3).alloc (Nat.le_refl _) (.cells #[.int .i64 p.c, .slice A3 (outX (putP ss) p.x p.x.length).length c3] 33)
      have kq := Bk.new w3 #[.int .i64 p.c, .slice A3 (outX (putP ss) p.x p.x.length).length c3] 33
      have hRq := (ho3.below hBq).rd
      have hC4 := impl_ProgOk _ (putR p ss) _ hRq
      have hb4 := hb3.trans (hBq.mono hb3.size)
      obtain ⟨W4, hW4⟩ : ∃ W4, w3.alloc (.cells #[.int .i64 p.c, .slice A3 (outX (putP ss) p.x p.x.length).length c3] 33) = W4 := ⟨_, rfl⟩
      rw [hW4] at hBq kq hC4 hb4
      have HW4 := Lib.hid hW4
      have KQ := Lib.hid kq
      have HBQ := Lib.hid hBq
      obtain ⟨n3, hn3⟩ : ∃ n3, (outX (putP ss) p.x p.x.length).length = n3 := ⟨_, rfl⟩
      have e0 : (putR p ss).c = p.c := rfl
      have e1 : (putR p ss).x = outX (putP ss) p.x p.x.length := rfl
      simp only [e0, hn3] at hC4
      rw [hn3] at kq
      obtain ⟨q0, -⟩ := kq.at_ 0 (x := .int .i64 p.c) rfl
      obtain ⟨q1, -⟩ := kq.at_ 1 (x := .slice A3 n3 c3) rfl
      rw [hn3] at HO3 HW4 KQ ⊢
      clear hRq hBq kq hW4 e0 e1 hn3 ho3 hlo3 d0 d1 k02 hb3'
      cases hok4 : progOkF (putR p ss)
      · have HN : Hid (putF p ss = none) := Lib.hid (by simp [putF, hok4])
        rw [hok4] at hC4
        have HC4 := Lib.hid hC4
        clear hC4 hok4
        go_upto_region 4 with (fail)
        rw [HW4.out]
        go_wp2_with fail
        refine HC4.out.mono ?_
        rintro e w5 ⟨rfl, hb5'⟩
        have hb5 := hb4.trans (hb5'.mono hb4.size)
        have kz := (K2.out.below hb5 K2.out.lt)
        obtain ⟨y0, f0⟩ := kz.at_ 0 (x := .int .i64 0) rfl
        have kza := kz.set_ 0 (.int .i64 0)
        obtain ⟨y1, f1⟩ := kza.at_ 1 (x := .slice none 0 0) rfl
        have kzb := kza.set_ 1 (.slice none 0 0)
        obtain ⟨r0, -⟩ := kzb.at_ 0 (x := .int .i64 0) rfl
        obtain ⟨r1, -⟩ := kzb.at_ 1 (x := .slice none 0 0) rfl
        clear kz kza kzb
        clear hb5' q0 q1
        go_wp2_with fail
        exact bodyPost_ret (v := .tuple #[.agg #[.int .i64 0, .slice none 0 0], .bool false]) (by simp [results, Try.results19, go_sem, r0, r1]) rfl (HNONE.out _ hb5 HN.out).2
      · have HN : Hid (putF p ss = some (putR p ss)) := Lib.hid (by simp [putF, hok4, HOK.out, HSP.out])
        rw [hok4] at hC4
        have HC4 := Lib.hid hC4
        clear hC4 hok4
        go_upto_region 4 with (fail)
        rw [HW4.out]
        go_wp2_with fail
        refine HC4.out.mono ?_
        rintro e w5 ⟨rfl, hb5'⟩
        have hb5 := hb4.trans (hb5'.mono hb4.size)
        have k25 := K2.out.below hb5 K2.out.lt
        have kq5 := KQ.out.below hb5' KQ.out.lt
        have ho5 := (HO3.out.1.below HBQ.out).below hb5'
        clear q0 q1
        obtain ⟨q0, -⟩ := kq5.at_ 0 (x := .int .i64 p.c) rfl
        obtain ⟨q1, -⟩ := kq5.at_ 1 (x := .slice A3 n3 c3) rfl
        obtain ⟨y0, f0⟩ := k25.at_ 0 (x := .int .i64 0) rfl
        have k2a := k25.set_ 0 (.int .i64 p.c)
        obtain ⟨y1, f1⟩ := k2a.at_ 1 (x := .slice none 0 0) rfl
        have k2b := k2a.set_ 1 (.slice A3 n3 c3)
        obtain ⟨r0, -⟩ := k2b.at_ 0 (x := .int .i64 p.c) rfl
        obtain ⟨r1, -⟩ := k2b.at_ 1 (x := .slice A3 n3 c3) rfl
        have hsw := HSW.out
        have hs2 := hb2.size
        have hlo : ∀ q ∈ bs3, W.heap.size ≤ q := fun q hq => Nat.le_trans hs2 (HO3.out.2 q hq)
        have hOF := (ho5.far (b := w.heap.size + 2) (i := 0) (u := .int .i64 p.c) fun q hq => by have := hlo q hq; omega).far (b := w.heap.size + 2) (i := 1) (u := .slice A3 n3 c3) fun q hq => by have := hlo q hq; omega
        have hBF := ((HB0.out.trans (hb5.mono HB0.out.size)).setCell (p := ⟨w.heap.size + 2, 0, none⟩) (by show w.heap.size ≤ w.heap.size + 2; omega) (.int .i64 p.c)).setCell (p := ⟨w.heap.size + 2, 1, none⟩) (by show w.heap.size ≤ w.heap.size + 2; omega) (.slice A3 n3 c3)
        have HE := Lib.hid (And.intro hOF (And.intro hBF fun q hq => Nat.le_trans (by omega : w.heap.size ≤ W.heap.size) (hlo q hq)))
        clear hOF hBF ho5 hlo hs2 hsw k25 kq5 k2a k2b hb5'
        go_wp2_with fail
        exact bodyPost_ret (v := .tuple #[.agg #[.int .i64 p.c, .slice A3 n3 c3], .bool true]) (by simp [results, Try.results19, go_sem, r0, r1]) rfl ⟨_, _, by rw [HN.out]; rfl, by rw [HN.out]; exact HE.out.1, HE.out.2.2, HE.out.2.1⟩
set_option maxHeartbeats 6400000 in
theorem impl_StripFences (v : Value) (p : Pr) (w : World) (h : RdSS w v p.x) :
    Calls Try.prog 30 #[.agg #[.int .i64 p.c, v]] w (RetPrB ((strF p).getD ⟨0, []⟩) (strF p).isSome w) := by
  obtain ⟨vs, ⟨A, c, rfl, -, -, -, -⟩, -⟩ := id h
  have k0 := (Bk.new w #[.int .i64 p.c, .slice A p.x.length c] 33).alloc (.cells #[.int .i64 0, .slice none 0 0] 33)
  have k2 := Bk.new (w.alloc (.cells #[.int .i64 p.c, .slice A p.x.length c] 33)) #[.int .i64 0, .slice none 0 0] 33
  have hB0 := ((Below.refl w.heap.size w).alloc (Nat.le_refl _) (.cells #[.int .i64 p.c, .slice A p.x.length c] 33)).alloc (by simp) (.cells #[.int .i64 0, .slice none 0 0] 33)
  simp only [World.size_alloc] at k2
  obtain ⟨W, hW⟩ : ∃ W, (w.alloc (.cells #[.int .i64 p.c, .slice A p.x.length c] 33)).alloc (.cells #[.int .i64 0, .slice none 0 0] 33) = W := ⟨_, rfl⟩
  rw [hW] at k0 k2 hB0
  have hsW : W.heap.size = w.heap.size + 2 := by rw [← hW]; simp
  have HW := Lib.hid hW
  have HB0 := Lib.hid hB0
  have HR := Lib.hid (h.below hB0)
  have HC := impl_ProgOk _ p _ HR.out
  have K0 := Lib.hid k0
  have K2 := Lib.hid k2
  have HSW := Lib.hid hsW
  obtain ⟨c0, -⟩ := k0.at_ 0 (x := .int .i64 p.c) rfl
  obtain ⟨c1, -⟩ := k0.at_ 1 (x := .slice A p.x.length c) rfl
  clear hW k0 k2 hB0 h hsW
  cases hok : progOkF p
  · have HN : Hid (strF p = none) := Lib.hid (by simp [strF, hok])
    rw [hok] at HC
    have HC := Lib.hid HC
    clear hok
    go_enter Try.func30, Try.ntmps30
    go_upto_region 1 with (fail)
    rw [HW.out]
    go_wp2_with fail
    refine HC.out.mono ?_
    rintro e w1 ⟨rfl, hb1⟩
    have kz := (K2.out.below hb1 K2.out.lt)
    obtain ⟨y0, f0⟩ := kz.at_ 0 (x := .int .i64 0) rfl
    have kza := kz.set_ 0 (.int .i64 0)
    obtain ⟨y1, f1⟩ := kza.at_ 1 (x := .slice none 0 0) rfl
    have kzb := kza.set_ 1 (.slice none 0 0)
    obtain ⟨r0, -⟩ := kzb.at_ 0 (x := .int .i64 0) rfl
    obtain ⟨r1, -⟩ := kzb.at_ 1 (x := .slice none 0 0) rfl
    clear kz kza kzb
    go_wp2_with fail
    exact bodyPost_ret (v := .tuple #[.agg #[.int .i64 0, .slice none 0 0], .bool false]) (by simp [results, Try.results30, go_sem, r0, r1]) rfl ⟨_, [], by rw [HN.out]; rfl, by rw [HN.out]; exact OwnSS.nil _, by simp, ((HB0.out.trans (hb1.mono HB0.out.size)).setCell (p := ⟨w.heap.size + 1, 0, none⟩) (by show w.heap.size ≤ w.heap.size + 1; omega) _).setCell (p := ⟨w.heap.size + 1, 1, none⟩) (by show w.heap.size ≤ w.heap.size + 1; omega) _⟩
  · have HOK := Lib.hid hok
    have HN : Hid (strF p = some (strR p)) := Lib.hid (by simp [strF, hok])
    rw [hok] at HC
    have HC := Lib.hid HC
    clear hok
    go_enter Try.func30, Try.ntmps30
    go_upto_region 1 with (fail)
    rw [HW.out]
    go_wp2_with fail
    refine HC.out.mono ?_
    rintro e w2 ⟨rfl, hb2⟩
    have hPS : PieceS Try.prog 62 #[] strP w2 := fun cv xs t k U hU hx hk h16 => impl_strPiece _ xs t k U hx hk h16
    have HRP := Lib.hid (impl_rebuildProg _ p 62 #[] strP w2 (HR.out.below hb2) HOK.out (enters_of Try.func62 (by kernel_rfl) rfl) hPS strP_le (fun t xs h k i hi h6 => strP_tgt h hi h6))
    have k02 := K0.out.below hb2 K0.out.lt
    clear c0 c1 hPS
    obtain ⟨d0, -⟩ := k02.at_ 0 (x := .int .i64 p.c) rfl
    obtain ⟨d1, -⟩ := k02.at_ 1 (x := .slice A p.x.length c) rfl
    go_wp2_with fail
    refine HRP.out.mono ?_
    rintro e w3 ⟨v3, bs3, rfl, ho3, hlo3, hb3'⟩
    have hb3 := hb2.trans (hb3'.mono hb2.size)
    obtain ⟨A3, c3, rfl, -, -⟩ := ho3.slice
    have hBq := (Below.refl w3.heap.size w3).alloc (Nat.le_refl _) (.cells #[.int .i64 p.c, .slice A3 (outX strP p.x p.x.length).length c3] 33)
    have kq := Bk.new w3 #[.int .i64 p.c, .slice A3 (outX strP p.x p.x.length).length c3] 33
    have hb4 := hb3.trans (hBq.mono hb3.size)
    have HO3 := Lib.hid (And.intro ho3 hlo3)
    obtain ⟨W4, hW4⟩ : ∃ W4, w3.alloc (.cells #[.int .i64 p.c, .slice A3 (outX strP p.x p.x.length).length c3] 33) = W4 := ⟨_, rfl⟩
    rw [hW4] at hBq kq hb4
    have HW4 := Lib.hid hW4
    have HBQ := Lib.hid hBq
    obtain ⟨n3, hn3⟩ : ∃ n3, (outX strP p.x p.x.length).length = n3 := ⟨_, rfl⟩
    rw [hn3] at HO3 HW4 kq ⊢
    have k25 := K2.out.below hb4 K2.out.lt
    have ho5 := HO3.out.1.below HBQ.out
    obtain ⟨q0, -⟩ := kq.at_ 0 (x := .int .i64 p.c) rfl
    obtain ⟨q1, -⟩ := kq.at_ 1 (x := .slice A3 n3 c3) rfl
    obtain ⟨y0, f0⟩ := k25.at_ 0 (x := .int .i64 0) rfl
    have k2a := k25.set_ 0 (.int .i64 p.c)
    obtain ⟨y1, f1⟩ := k2a.at_ 1 (x := .slice none 0 0) rfl
    have k2b := k2a.set_ 1 (.slice A3 n3 c3)
    obtain ⟨r0, -⟩ := k2b.at_ 0 (x := .int .i64 p.c) rfl
    obtain ⟨r1, -⟩ := k2b.at_ 1 (x := .slice A3 n3 c3) rfl
    have hsw := HSW.out
    have hs2 := hb2.size
    have hlo : ∀ q ∈ bs3, W.heap.size ≤ q := fun q hq => Nat.le_trans hs2 (hlo3 q hq)
    have hOF := (ho5.far (b := w.heap.size + 1) (i := 0) (u := .int .i64 p.c) fun q hq => by have := hlo q hq; omega).far (b := w.heap.size + 1) (i := 1) (u := .slice A3 n3 c3) fun q hq => by have := hlo q hq; omega
    have hBF := ((HB0.out.trans (hb4.mono HB0.out.size)).setCell (p := ⟨w.heap.size + 1, 0, none⟩) (by show w.heap.size ≤ w.heap.size + 1; omega) (.int .i64 p.c)).setCell (p := ⟨w.heap.size + 1, 1, none⟩) (by show w.heap.size ≤ w.heap.size + 1; omega) (.slice A3 n3 c3)
    have HE := Lib.hid (And.intro hOF (And.intro hBF fun q hq => Nat.le_trans (by omega : w.heap.size ≤ W.heap.size) (hlo q hq)))
    clear hOF hBF ho5 hlo hs2 hsw k25 kq k2a k2b hn3 hW4 hBq ho3 hlo3 hb3' d0 d1 k02
    go_upto_region 4 with (fail)
    rw [HW4.out]
    go_wp2_with fail
    exact bodyPost_ret (v := .tuple #[.agg #[.int .i64 p.c, .slice A3 n3 c3], .bool true]) (by simp [results, Try.results30, go_sem, r0, r1]) rfl ⟨_, _, by rw [HN.out]; rfl, by rw [HN.out]; exact HE.out.1, HE.out.2.2, HE.out.2.1⟩
end Go.Proofs.Ytgbgjlmkmlhefaa
