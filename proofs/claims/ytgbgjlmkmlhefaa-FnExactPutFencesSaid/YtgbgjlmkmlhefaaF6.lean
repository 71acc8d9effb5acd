/- Contracts of the pieces that impl.PutFences and impl.StripFences hand out at a place of a code. Conditions: the list of spots and the code can be read. -/
import Derived.Test.YtgbgjlmkmlhefaaF5
import Derived.Test.YtgbgjlmkmlhefaaI7
import Derived.Test.YtgbgjlmkmlhefaaSteps
namespace Go.Proofs.Ytgbgjlmkmlhefaa
set_option maxRecDepth 20000
set_option linter.unusedSimpArgs false
set_option linter.unusedVariables false
open Go.ChangeShapes Go.WideShapes Go.ChangeAt Go.RowKit
set_option linter.unusedVariables false
set_option maxHeartbeats 1600000 in
theorem indexS (v : Value) (ss : List P2) (s : P2) (w : World) (h : Rd w v 2 ss.length (flc2 ss)) :
    Calls Try.prog 83 #[v, .agg #[.int .i64 s.a, .int .i64 s.b]] w fun e w' => (∃ r : Int, e = .returned (.int .i64 r) ∧ decide (0 ≤ r) = hasS ss s.a s.b) ∧ Below w.heap.size w w' := by
  obtain ⟨A, c, rfl, -, hnc, hc, hr⟩ := h
  unfold maxLen at hc
  obtain ⟨sa, sb⟩ := s
  have hB0 := (Below.refl w.heap.size w).alloc (Nat.le_refl _) (.cells #[.int .i64 sa, .int .i64 sb] 29)
  have k0 := Bk.new w #[.int .i64 sa, .int .i64 sb] 29
  go_enter Try.func83, Try.ntmps83
  go_wp2_with fail
  go_loopw [5, 8] (fun _ j wr => ∃ k : Nat, k ≤ ss.length ∧ j = .int .i64 k ∧ Hid ((ss.take k).any (fun s => s.a == sa && s.b == sb) = false) ∧ Below w.heap.size w wr ∧ Bk wr w.heap.size #[.int .i64 sa, .int .i64 sb] 29) (fun _ j _ => ss.length - (intOf j).toNat)
  case atStart => exact ⟨0, Nat.zero_le _, rfl, Lib.hid (by simp), hB0, k0⟩
  case round =>
    obtain ⟨k, hk, rfl, HN, hB, kp⟩ := hrel
    clear hB0 k0
    by_cases hlt : k < ss.length
    · obtain ⟨b, o, rfl, hb, hcell⟩ := hr (by omega)
      obtain ⟨x, hxk, hx0, hx1⟩ := p2_at (fun j u hu => (hB.cell (p := ⟨b, o + j, none⟩) hb).trans (hcell j u hu)) hlt
      obtain ⟨xa, xb⟩ := x
      simp only at hx0 hx1
      obtain ⟨c0, -⟩ := kp.at_ 0 (x := .int .i64 sa) rfl
      obtain ⟨c1, -⟩ := kp.at_ 1 (x := .int .i64 sb) rfl
      have KP := Lib.hid kp
      clear hcell hr kp
      by_cases he : xa = sa ∧ xb = sb
      · obtain ⟨rfl, rfl⟩ := he
        have HQ : Hid (hasS ss xa xb = true) := Lib.hid (any_yes hxk.out (by simp))
        go_wp2_with fail
        go_quiet (fail)
        go_wp2_with fail
        go_ret
        exact ⟨⟨_, rfl, by rw [HQ.out]; simp⟩, below_more hB _⟩
      · have hne : (xa == sa && xb == sb) = false := by
          cases e1 : (xa == sa) <;> cases e2 : (xb == sb) <;> simp_all
        have HQ := Lib.hid (any_no HN.out hxk.out hne)
        have hc2 : ((sa == xa) = false) ∨ ((sa == xa) = true ∧ (sb == xb) = false) := by
          by_cases h1 : sa = xa
          · by_cases h2 : sb = xb
            · exact absurd ⟨h1.symm, h2.symm⟩ he
            · exact .inr ⟨by simp [h1], by simp [h2]⟩
          · exact .inl (by simp [h1])
        clear hne he
        rcases hc2 with e1 | ⟨e1, e2⟩
        all_goals
          go_wp2_with fail
          go_quiet (fail)
          go_wp2_with fail
          exact ⟨⟨k + 1, by omega, by go_num, HQ, below_more hB _, KP.out⟩, by simp [intOf]; omega⟩
    · have HQ : Hid (hasS ss sa sb = false) := Lib.hid (by have := HN.out; rwa [List.take_of_length_le (by omega)] at this)
      go_wp2_with fail
      go_ret
      exact ⟨⟨_, rfl, by rw [HQ.out]; rfl⟩, hB⟩
set_option maxHeartbeats 800000 in
theorem containsS (v : Value) (ss : List P2) (s : P2) (w : World) (h : Rd w v 2 ss.length (flc2 ss)) :
    Calls Try.prog 53 #[v, .agg #[.int .i64 s.a, .int .i64 s.b]] w fun e w' => e = .returned (.bool (hasS ss s.a s.b)) ∧ Below w.heap.size w w' := by
  obtain ⟨A, c, rfl, -, -, -, -⟩ := id h
  obtain ⟨sa, sb⟩ := s
  have hB0 := (Below.refl w.heap.size w).alloc (Nat.le_refl _) (.cells #[.int .i64 sa, .int .i64 sb] 29)
  have hI := indexS _ ss ⟨sa, sb⟩ _ (h.below hB0)
  have HI := Lib.hid hI
  clear hI h
  go_enter Try.func53, Try.ntmps53
  go_wp2_with fail
  refine HI.out.mono ?_
  rintro e w1 ⟨⟨r, rfl, hr⟩, hb1⟩
  go_wp2_with fail
  go_ret
  exact ⟨rfl, hB0.trans (hb1.mono hB0.size)⟩
theorem step_rd {P : Program} (w : World) {ops : Array Oper} {o : Oper} {a : Act} {K : Act → World → Prop} {Q : Exit → Act → World → Prop} {E : Prop} (hgd : o.guard = none) (s x : Operand) (t : TypeId)
    (ho : o.op = .call { callee := .builtin .append, args := #[s, x], argTypes := #[t, t] })
    (base : Nat) (e : TypeId) (i : TypeInfo) (z : Value) (size bytes : Nat) (ht : P.underlying t = some (.slice e)) (hi : P.info? e = some i) (hz : i.zero = some z)
    (hsize : i.size = size) (hby : i.bytes = bytes) (hzs : z.cells.size = size) (hsz : 0 < size)
    (v : Value) (n : Nat) (xs : List Value) (hs : a.eval s = v) (hown : w.ownsRow base e size v n xs)
    (u : Value) (m : Nat) (news : List Value) (hu : a.eval x = u) (hx : Rd w u size m news) (h1 : ∀ u ∈ news, u.oneCell' = true)
    (h63 : n + m ≤ maxLen) (hbytes : (n + m) * bytes ≤ 140737488355328) (hbase : base ≤ w.heap.size)
    (h : ∀ v' w', w'.ownsRow base e size v' (n + m) (xs ++ news) → w.grownBy w' v.ownBlock → K (a.put o.dst v') w') :
    if Region.wanted o (yielded ops a.tmps) = true then Oper.wp P o a w K Q else E := by
  have hw : Region.wanted o (yielded ops a.tmps) = true := by simp [Region.wanted, hgd]
  rw [if_pos hw]
  obtain ⟨v', w', hrun, h2, h3⟩ := run_append_rd (P := P) w base t o.type e i z size bytes ht hi hz hsize hby hzs hsz v n xs hown u m news hx h1 h63 hbytes hbase
  unfold Oper.wp execOp
  simp only [ho, resolve, invoke, builtin, Sem.run_bind, Sem.run_pure, Result.andThen_ok, List.map_toArray, List.map_cons, List.map_nil, hs, hu, hrun]
  exact h v' w' h2 h3
theorem rd_put {w : World} {v : Value} {L : List Ins} (h : Rd w v 4 (1 + L.length) (flc [fenceI] ++ flc L)) : Rd w v 4 ([fenceI] ++ L).length (flc ([fenceI] ++ L)) := by
  rw [flc_append, List.length_append]
  exact h
theorem owns_lit1 (w : World) (base : Nat) (t : TypeId) (hb : base ≤ w.heap.size) : (w.alloc (.cells #[.int .i64 4, .int .i64 0, .int .i64 0, .int .i64 0] t)).ownsRow base t 4 (.slice (some ⟨w.heap.size, 0, none⟩) 1 1) 1 (flc [fenceI]) :=
  World.ownsRow_lit w #[.int .i64 4, .int .i64 0, .int .i64 0, .int .i64 0] 1 hb (by simp [maxLen]) rfl
set_option maxHeartbeats 3200000 in
theorem impl_putPiece (b0 : Nat) (sv cv : Value) (ss : List P2) (xs : List Ins) (t k : Nat) (w : World) (hk : Bk w b0 #[sv] 41) (hs : Rd w sv 2 ss.length (flc2 ss)) (h : Rd w cv 4 xs.length (flc xs)) (hkl : k ≤ xs.length) (hsz : xs.length ≤ 16) :
    Calls Try.prog 52 #[cv, .agg #[.int .i64 t, .int .i64 k], .pointer (some ⟨b0, 0, none⟩)] w fun e w' => ∃ r, e = .returned r ∧ Rd w' r 4 (putP ss t xs k).length (flc (putP ss t xs k)) ∧ Below w.heap.size w w' := by
  obtain ⟨As, cs, rfl, -, -, -, -⟩ := id hs
  obtain ⟨Ac, cc, rfl, -, -, -, -⟩ := id h
  obtain ⟨i, hi, hiz0, hiz1, hiz2⟩ := info_parts infoIns
  have hB0 := (Below.refl w.heap.size w).alloc (Nat.le_refl _) (.cells #[.int .i64 t, .int .i64 k] 29)
  have k0 := Bk.new w #[.int .i64 t, .int .i64 k] 29
  have kb := hk.alloc (.cells #[.int .i64 t, .int .i64 k] 29)
  obtain ⟨W, hW⟩ : ∃ W, w.alloc (.cells #[.int .i64 t, .int .i64 k] 29) = W := ⟨_, rfl⟩
  rw [hW] at hB0 k0 kb
  have HW := Lib.hid hW
  have l0 := k0.lt
  have hC := containsS _ ss ⟨(t : Int), (k : Int)⟩ _ (hs.below hB0)
  have HR := Lib.hid (h.below hB0)
  obtain ⟨c0, -⟩ := k0.at_ 0 (x := .int .i64 t) rfl
  obtain ⟨c1, -⟩ := k0.at_ 1 (x := .int .i64 k) rfl
  obtain ⟨c2, -⟩ := kb.at_ 0 (x := .slice As ss.length cs) rfl
  have HB0 := Lib.hid hB0
  clear hW hB0 hs h hk kb
  cases hh : hasS ss t k
  · have HE : Hid (putP ss t xs k = xs[k]?.toList) := Lib.hid (by simp [putP, hh])
    rw [show hasS ss (P2.mk t k).a (P2.mk t k).b = hasS ss t k from rfl, hh] at hC
    have HC := Lib.hid hC
    clear hC hh
    go_enter Try.func52, Try.ntmps52
    go_upto_region 1 with (fail)
    rw [HW.out]
    go_wp2_with fail
    refine HC.out.mono ?_
    rintro e w1 ⟨rfl, hb1⟩
    have k1 := k0.below hb1 l0
    obtain ⟨d1, -⟩ := k1.at_ 1 (x := .int .i64 k) rfl
    obtain ⟨d0, -⟩ := k1.at_ 0 (x := .int .i64 t) rfl
    go_wp2_with fail
    refine (impl_instrAt _ xs k _ (HR.out.below hb1) hkl (by omega)).mono ?_
    intro e w2 h2
    obtain ⟨r, rfl, h3, h4⟩ := h2.rd
    go_wp2_with fail
    go_ret
    exact ⟨_, rfl, by rw [HE.out]; exact h3, HB0.out.trans ((hb1.trans (h4.mono hb1.size)).mono HB0.out.size)⟩
  · have HE : Hid (putP ss t xs k = [fenceI] ++ xs[k]?.toList) := Lib.hid (by simp [putP, hh])
    have hLl : xs[k]?.toList.length ≤ 1 := by cases xs[k]? <;> simp
    rw [show hasS ss (P2.mk t k).a (P2.mk t k).b = hasS ss t k from rfl, hh] at hC
    have HC := Lib.hid hC
    have HIA := Lib.hid fun (W : World) (h : Rd W (.slice Ac xs.length cc) 4 xs.length (flc xs)) => impl_instrAt _ xs k W h hkl (by omega)
    obtain ⟨L, hL⟩ : ∃ L, xs[k]?.toList = L := ⟨_, rfl⟩
    rw [hL] at HE HIA hLl
    clear hC hh hL
    go_enter Try.func52, Try.ntmps52
    go_upto_region 1 with (fail)
    rw [HW.out]
    go_wp2_with fail
    refine HC.out.mono ?_
    rintro e w1 ⟨rfl, hb1⟩
    have k1 := k0.below hb1 l0
    have l1 := k1.lt
    obtain ⟨d1, -⟩ := k1.at_ 1 (x := .int .i64 k) rfl
    obtain ⟨d0, -⟩ := k1.at_ 0 (x := .int .i64 t) rfl
    have HR1 := Lib.hid (HR.out.below hb1)
    have HB1 := Lib.hid (HB0.out.trans (hb1.mono HB0.out.size))
    have K1 := Lib.hid k1
    clear c0 c1 c2 hb1 k1 k0
    go_wp2_with fail
    go_region_law (first
      | (refine step_call rfl 54 Try.func54 (by kernel_rfl) (by kernel_rfl) _ _ rfl #[] (by simp [Act.eval, Act.put]) (impl_newFence _) ?_; rintro e w6 ⟨rfl, hb6'⟩; refine ⟨_, rfl, ?_⟩; have hb6 := (Below.refl w1.heap.size w1).drew.trans hb6'; have k6 := K1.out.below hb6 K1.out.lt; obtain ⟨f0, -⟩ := k6.at_ 0 (x := .int .i64 t) rfl; obtain ⟨f1, -⟩ := k6.at_ 1 (x := .int .i64 k) rfl; have l6 := k6.lt; have s6 := hb6.size)
      | (refine step_call rfl 55 Try.func55 (by kernel_rfl) (by kernel_rfl) _ _ rfl #[.slice Ac xs.length cc, .int .i64 k] (by simp [Act.eval, Act.put]) (HIA.out _ ((HR1.out.below hb6).below ((Below.refl _ _).alloc (Nat.le_refl _) _))) ?_; intro e w8 h8; obtain ⟨r8, rfl, q8, hb8⟩ := RetRow4.rd h8; refine ⟨_, rfl, ?_⟩; have ord8 : True := trivial)
      | (refine step_call rfl 55 Try.func55 (by kernel_rfl) (by kernel_rfl) _ _ rfl #[.slice Ac xs.length cc, .int .i64 k] (by simp [Act.eval, Act.put]) (HIA.out _ (HR1.out.below hb6)) ?_; intro e w8 h8; obtain ⟨r8, rfl, q8, hb8⟩ := RetRow4.rd h8; refine ⟨_, rfl, ?_⟩)
      | (refine step_rd _ rfl (.tmp 10) (.tmp 14) 57 rfl w1.heap.size 74 i (.agg #[.int .i64 0, .int .i64 0, .int .i64 0, .int .i64 0]) 4 32 Try.underlying57 hi hiz0 hiz1 hiz2 rfl (by decide) _ 1 (flc [fenceI]) rfl (ownsRow_below (owns_lit1 w6 w1.heap.size 74 hb6.size) hb8) _ L.length (flc L) rfl q8 (flc_one' L) (by unfold maxLen; omega) (by omega) (by have := hb8.size; simp at this; omega) ?_; intro v7 w7 hown7 hg7)
      | (refine step_rd _ rfl (.tmp 10) (.tmp 14) 57 rfl w1.heap.size 74 i (.agg #[.int .i64 0, .int .i64 0, .int .i64 0, .int .i64 0]) 4 32 Try.underlying57 hi hiz0 hiz1 hiz2 rfl (by decide) _ 1 (flc [fenceI]) rfl (owns_lit1 w8 w1.heap.size 74 (Nat.le_trans hb6.size hb8.size)) _ L.length (flc L) rfl (q8.below ((Below.refl _ _).alloc (Nat.le_refl _) _)) (flc_one' L) (by unfold maxLen; omega) (by omega) (by have := hb8.size; simp; omega) ?_; intro v7 w7 hown7 hg7))
    all_goals
      have hX : Below w1.heap.size w1 w7 := by
        first
          | exact ((hb6.alloc hb6.size _).trans (hb8.mono (hb6.alloc hb6.size _).size)).grown hg7 ((hb6.alloc hb6.size _).trans (hb8.mono (hb6.alloc hb6.size _).size)).size (fun k hk => ((ownsRow_below (owns_lit1 w6 w1.heap.size 74 hb6.size) hb8).lt k hk).1)
          | exact ((hb6.trans (hb8.mono hb6.size)).alloc (hb6.trans (hb8.mono hb6.size)).size _).grown hg7 ((hb6.trans (hb8.mono hb6.size)).alloc (hb6.trans (hb8.mono hb6.size)).size _).size (fun k hk => ((owns_lit1 w8 w1.heap.size 74 (Nat.le_trans hb6.size hb8.size)).lt k hk).1)
      obtain ⟨bs7, h7, -⟩ := Own.of_owns hown7
      have hR7 := rd_put h7.rd
      clear hg7 hown7 h7
      go_wp2_with fail
      go_ret
      exact ⟨_, rfl, by rw [HE.out]; exact hR7, HB1.out.trans (hX.mono HB1.out.size)⟩
set_option maxHeartbeats 400000 in
theorem impl_isFence (x : Ins) (w : World) : Calls Try.prog 64 #[(Value.agg #[.int .i64 x.o, .int .i64 x.r, .int .i64 x.s, .int .i64 x.n])] w fun e w' => e = .returned (.bool (x.o == 4)) ∧ Below w.heap.size w w' := by
  obtain ⟨xo, xr, xsS, xn⟩ := x
  have hB0 := (Below.refl w.heap.size w).alloc (Nat.le_refl _) (.cells #[.int .i64 xo, .int .i64 xr, .int .i64 xsS, .int .i64 xn] 74)
  go_enter Try.func64, Try.ntmps64
  go_wp2_with fail
  refine (ins_op ⟨xo, xr, xsS, xn⟩ _).mono ?_
  rintro e w1 ⟨rfl, hb1⟩
  go_wp2_with fail
  go_ret
  exact ⟨rfl, hB0.trans (hb1.mono hB0.size)⟩
set_option maxHeartbeats 800000 in
theorem indexF0 (A : Option Addr) (c : Nat) (w : World) :
    Calls Try.prog 86 #[.slice A 0 c, .func (.func 64) #[] #[]] w fun e w' => e = .returned (.int .i64 (-1)) ∧ Below w.heap.size w w' := by
  go_enter Try.func86, Try.ntmps86
  go_wp2_with fail
  refine wp_loop_rounds 1 ?_
  rw [rounds_succ]
  go_wp2_with fail
  go_ret
  exact ⟨rfl, Below.refl _ _⟩
set_option maxHeartbeats 800000 in
theorem indexF1 (b o c : Nat) (x : Ins) (w : World) (h : Ins4 w b o x) :
    Calls Try.prog 86 #[.slice (some ⟨b, o, none⟩) 1 c, .func (.func 64) #[] #[]] w fun e w' => e = .returned (.int .i64 (if x.o = 4 then 0 else -1)) ∧ Below w.heap.size w w' := by
  obtain ⟨hx0, hx1, hx2, hx3⟩ := h
  have hI := impl_isFence x w
  cases h4 : (x.o == 4)
  · have hn : ¬ x.o = 4 := by simpa using h4
    rw [h4] at hI
    have HI := Lib.hid hI
    have HN := Lib.hid hn
    clear hI h4 hn
    go_enter Try.func86, Try.ntmps86
    go_wp2_with fail
    refine wp_loop_rounds 2 ?_
    rw [rounds_succ]
    go_wp2_with fail
    refine HI.out.mono ?_
    rintro e w1 ⟨rfl, hb1⟩
    go_wp2_with fail
    rw [rounds_succ]
    go_wp2_with fail
    go_ret
    exact ⟨rfl, hb1⟩
  · have hn : x.o = 4 := by simpa using h4
    rw [h4] at hI
    have HI := Lib.hid hI
    have HN := Lib.hid hn
    clear hI h4 hn
    go_enter Try.func86, Try.ntmps86
    go_wp2_with fail
    refine wp_loop_rounds 1 ?_
    rw [rounds_succ]
    go_wp2_with fail
    refine HI.out.mono ?_
    rintro e w1 ⟨rfl, hb1⟩
    go_wp2_with fail
    go_ret
    exact ⟨rfl, hb1⟩
theorem run_clear4 (w : World) (ty : TypeId) (g c : Nat) (hc : ∀ j, j < 4 → (w.cell? ⟨g, j, none⟩).isSome = true) (hf : ∀ j, j < 4 → w.frozen? ⟨g, j, none⟩ = false) :
    (Builtin.clear_ #[57] ty #[.slice (some ⟨g, 0, none⟩) 1 c]).run Try.prog w = .ok (.tuple #[]) ((((w.setCell ⟨g, 0, none⟩ (.int .i64 0)).setCell ⟨g, 1, none⟩ (.int .i64 0)).setCell ⟨g, 2, none⟩ (.int .i64 0)).setCell ⟨g, 3, none⟩ (.int .i64 0)) := by
  have hv : ∀ w, (zeroValue 74).run Try.prog w = .ok (.agg #[.int .i64 0, .int .i64 0, .int .i64 0, .int .i64 0]) w := fun _ => by kernel_rfl
  have hzc : (Builtin.zeroCells (Value.agg #[.int .i64 0, .int .i64 0, .int .i64 0, .int .i64 0]).cells 1).toList = [.int .i64 0, .int .i64 0, .int .i64 0, .int .i64 0] := by kernel_rfl
  have hst := run_storeCells_cells (P := Try.prog) g 0 [.int .i64 0, .int .i64 0, .int .i64 0, .int .i64 0] 0 w (by simpa using hc) (by simpa using hf) (by simp [Value.oneCell'])
  simp [Builtin.clear_, run_underlying (Try.underlying57), hv, hzc, hst, World.setCells]
set_option maxHeartbeats 1600000 in
theorem deleteI (v : Value) (L : List Ins) (base : Nat) (w : World) (h : w.ownsRow base 74 4 v L.length (flc L)) (hb : base ≤ w.heap.size) (hL : L.length ≤ 1) :
    Calls Try.prog 63 #[v, .func (.func 64) #[] #[]] w
      fun e w' => ∃ r, e = .returned r ∧ Rd w' r 4 (L.filter fun x => x.o != 4).length (flc (L.filter fun x => x.o != 4)) ∧ Below base w w' := by
  obtain ⟨A, c, rfl, hnc, hc⟩ := owns_slice h
  rcases L with _ | ⟨x, L⟩
  · have HI := Lib.hid (indexF0 A c w)
    have hc0 : c ≤ 9223372036854775807 := hc
    clear h
    go_enter Try.func63, Try.ntmps63
    go_wp2_with fail
    refine HI.out.mono ?_
    rintro e w1 ⟨rfl, hb1⟩
    go_wp2_with fail
    go_ret
    exact ⟨_, rfl, rd_none A hc0, hb1.mono hb⟩
  · obtain rfl : L = [] := by cases L with
      | nil => rfl
      | cons y L => simp at hL
    obtain ⟨g, rfl⟩ := owns_formS h (by simp)
    have gl := h.lt g rfl
    obtain ⟨bs, hO, -⟩ := Own.of_owns h
    have h4 : Ins4 w g 0 x := ⟨h.cellAt 0 (by simp), h.cellAt 1 (by simp), h.cellAt 2 (by simp), h.cellAt 3 (by simp)⟩
    have hI := indexF1 g 0 c x w h4
    by_cases he : x.o = 4
    · have HE : Hid (([x].filter fun x => x.o != 4) = []) := Lib.hid (by simp [he])
      rw [if_pos he] at hI
      have HI := Lib.hid hI
      clear hI hO
      go_enter Try.func63, Try.ntmps63
      go_wp2_with fail
      refine HI.out.mono ?_
      rintro e w1 ⟨rfl, hb1⟩
      have h1 := ownsRow_below h hb1
      have hcl := fun ty => run_clear4 w1 ty g c (fun j hj => by rw [h1.cellAt j (by simp; omega)]; rw [List.getElem?_eq_getElem (by rw [flc_len]; simp; omega)]; rfl) (fun j _ => h1.frozenAt j)
      clear h h4 he h1
      go_wp2_with fail
      refine wp_loop_rounds 1 ?_
      rw [rounds_succ]
      go_wp2_with fail
      go_ret
      exact ⟨_, rfl, by rw [HE.out]; exact rd_none _ hc, below_set4 (hb1.mono hb) gl.1 _ _ _ _ _ _ _ _⟩
    · have HE : Hid (([x].filter fun x => x.o != 4) = [x]) := Lib.hid (by simp [he])
      rw [if_neg he] at hI
      have HI := Lib.hid hI
      clear hI h h4 he
      go_enter Try.func63, Try.ntmps63
      go_wp2_with fail
      refine HI.out.mono ?_
      rintro e w1 ⟨rfl, hb1⟩
      go_wp2_with fail
      go_ret
      exact ⟨_, rfl, by rw [HE.out]; exact (hO.below hb1).rd, hb1.mono hb⟩
set_option maxHeartbeats 800000 in
theorem impl_strPiece (cv : Value) (xs : List Ins) (t k : Nat) (w : World) (h : Rd w cv 4 xs.length (flc xs)) (hkl : k ≤ xs.length) (hsz : xs.length ≤ 16) :
    Calls Try.prog 62 #[cv, .agg #[.int .i64 t, .int .i64 k]] w fun e w' => ∃ r, e = .returned r ∧ Rd w' r 4 (strP t xs k).length (flc (strP t xs k)) ∧ Below w.heap.size w w' := by
  obtain ⟨Ac, cc, rfl, -, -, -, -⟩ := id h
  have hB0 := (Below.refl w.heap.size w).alloc (Nat.le_refl _) (.cells #[.int .i64 t, .int .i64 k] 29)
  have HR := Lib.hid (h.below hB0)
  have hLl : xs[k]?.toList.length ≤ 1 := by cases xs[k]? <;> simp
  have HIA := Lib.hid fun (W : World) (h : Rd W (.slice Ac xs.length cc) 4 xs.length (flc xs)) => impl_instrAt _ xs k W h hkl (by omega)
  have HE : Hid (strP t xs k = xs[k]?.toList.filter fun x => x.o != 4) := Lib.hid rfl
  obtain ⟨L, hL⟩ : ∃ L, xs[k]?.toList = L := ⟨_, rfl⟩
  rw [hL] at HE HIA hLl
  clear hL h
  go_enter Try.func62, Try.ntmps62
  go_wp2_with fail
  refine (HIA.out _ HR.out).mono ?_
  rintro e w1 ⟨r, rfl, ho1, hb1⟩
  go_wp2_with fail
  refine (deleteI r L _ w1 ho1 hb1.size hLl).mono ?_
  rintro e w2 ⟨r2, rfl, h2, hb2⟩
  go_wp2_with fail
  go_ret
  exact ⟨_, rfl, by rw [HE.out]; exact h2, hB0.trans ((hb1.trans hb2).mono hB0.size)⟩
end Go.Proofs.Ytgbgjlmkmlhefaa
