/- Contracts of the effects of the instructions (package impl): what each does to the machine in the box. Condition: the thread stands where the pointer says, the instruction is valid. -/
import Derived.Test.YtiflooopfpcelaaC12
import Derived.Test.YtiflooopfpcelaaM2
import Derived.Test.YtiflooopfpcelaaB2
import Derived.Test.YtiflooopfpcelaaB8
import Derived.Test.YtiflooopfpcelaaV5
import Derived.Test.YtiflooopfpcelaaC15
import Derived.StillTailTactics
import Derived.BigRegion
namespace Go.Proofs.Ytiflooopfpcelaa
set_option maxRecDepth 20000
set_option linter.unusedSimpArgs false
set_option linter.unusedVariables false
open Go.ChangeShapes Go.WideShapes Go.ChangeAt Go.RowKit
/-- the machine behind a call that may write its rows: M' -/
def Eff (M' : Ma) (L : List Nat) (gm bT oT c : Nat) (w : World) (e : Ending) (w' : World) : Prop :=
  e = .returned (.tuple #[]) ∧ ∃ L', MBx w' gm bT oT c M' L' ∧ Only L w w' ∧ ∀ b ∈ L', b ∈ L ∨ w.heap.size ≤ b
/-- thread k's cells, for a walk -/
theorem MB.cells {W : World} {gm bT oT c : Nat} {mv : Value} {M : Ma} {vs : List (Value × Value)} {qs : List (List Nat × List Nat)} {bm : List Nat} (h : MB W gm bT oT c mv M vs qs bm) {k : Nat} {t : Th} (ht : M.ths[k]? = some t) {a f : Value} (hp : vs[k]? = some (a, f)) :
    W.cell? ⟨bT, oT + k * 3, none⟩ = some (.int .i64 t.pc) ∧ W.cell? ⟨bT, oT + k * 3 + 1, none⟩ = some a ∧ W.cell? ⟨bT, oT + k * 3 + 2, none⟩ = some f ∧
    W.frozen? ⟨bT, oT + k * 3, none⟩ = false ∧ W.frozen? ⟨bT, oT + k * 3 + 1, none⟩ = false ∧ W.frozen? ⟨bT, oT + k * 3 + 2, none⟩ = false := by
  have hk := (List.getElem?_eq_some_iff.1 ht).1
  obtain ⟨b', o', c', he, hb, -, hat, -, -⟩ := h.ths.row.open_ (by omega)
  injection he with he1
  injection he1 with he1
  injection he1 with he1 he2
  subst he1 he2
  have e0 := hat (k * 3 + 0) _ (thCs_at ht hp 0 (by omega))
  have e1 := hat (k * 3 + 1) _ (thCs_at ht hp 1 (by omega))
  have e2 := hat (k * 3 + 2) _ (thCs_at ht hp 2 (by omega))
  exact ⟨e0.1, e1.1, e2.1, e0.2, e1.2, e2.2⟩
/-- thread k's values, for a walk -/
theorem MB.valAt {W : World} {gm bT oT c : Nat} {mv : Value} {M : Ma} {vs : List (Value × Value)} {qs : List (List Nat × List Nat)} {bm : List Nat} (h : MB W gm bT oT c mv M vs qs bm) {k : Nat} {t : Th} (ht : M.ths[k]? = some t) (hn : 0 < t.v.length) :
    ∃ bv ov cv f qa qb, vs[k]? = some (.slice (some ⟨bv, ov, none⟩) t.v.length cv, f) ∧ qs[k]? = some (qa, qb) ∧ bv < W.heap.size ∧ t.v.length ≤ cv ∧ cv ≤ 9223372036854775807 ∧ ∀ j x, t.v[j]? = some x → W.cell? ⟨bv, ov + j, none⟩ = some (.int .i64 x) ∧ W.frozen? ⟨bv, ov + j, none⟩ = false := by
  obtain ⟨a, f, qa, qb, hp, hq⟩ := h.ths.get ht
  have hv := h.ths.vals ht hp hq
  obtain ⟨bv, ov, cv, he, hqa, hl, hat, hc1, hc2⟩ := hv.open_ hn
  simp only at he
  subst he
  exact ⟨bv, ov, cv, f, qa, qb, hp, hq, hl, hc1, hc2, fun j x hx => hat j _ (by simp [ints, hx])⟩
theorem eff_of {w W1 w' : World} {gm bT oT c : Nat} {mv' : Value} {M' : Ma} {vs' : List (Value × Value)} {qs' : List (List Nat × List Nat)} {bm' L : List Nat} (hM : MB W1 gm bT oT c mv' M' vs' qs' bm') (ho : Only L w W1)
    (hL : ∀ b ∈ gm :: (bm' ++ tblk M'.ths vs' qs' bT), b ∈ L ∨ w.heap.size ≤ b) (hd : Below W1.heap.size W1 w') : Eff M' L gm bT oT c w (.returned (.tuple #[])) w' :=
  ⟨rfl, _, hM.x.below hd, ho.trans (Only.of_below hd L), hL⟩
theorem clamp_still (x : Int) (w : World) : Calls Try.prog 131 #[.int .i64 x] w fun e w' => e = .returned (.int .i64 (clampF x)) ∧ w' = w :=
  (impl_Clamp x w).mono fun _ _ h => ⟨h.1, h.2.symm⟩
set_option maxHeartbeats 800000 in
theorem impl_fence (gm bT oT c k : Nat) (i : Ins) (M : Ma) (L : List Nat) (w : World) (h : MBx w gm bT oT c M L) :
    Calls Try.prog 149 #[coreV bT oT k gm, (Value.agg #[.int .i64 i.o, .int .i64 i.r, .int .i64 i.s, .int .i64 i.n])] w (Eff M L gm bT oT c w) := by
  unfold coreV
  have hb := ((Below.refl w.heap.size w).alloc (Nat.le_refl _) (.cells #[.pointer (some ⟨bT, oT + k * 3, none⟩), .pointer (some ⟨gm, 0, none⟩)] 123)).alloc (by simp) (.cells #[.int .i64 i.o, .int .i64 i.r, .int .i64 i.s, .int .i64 i.n] 118)
  have h1 := h.below hb
  have HB := Lib.hid hb
  clear hb
  go_enter Try.func149, Try.ntmps149
  go_wp2_with fail
  go_end0
  exact ⟨rfl, L, h1, Only.of_below HB.out L, fun b hb => .inl hb⟩
set_option maxHeartbeats 3200000 in
theorem impl_set (gm bT oT c k r : Nat) (i : Ins) (M : Ma) (t : Th) (L : List Nat) (w : World) (h : MBx w gm bT oT c M L) (ht : M.ths[k]? = some t) (hl : t.v.length = 4) (hr : i.r = r) (hr4 : r < 4) :
    Calls Try.prog 145 #[coreV bT oT k gm, (Value.agg #[.int .i64 i.o, .int .i64 i.r, .int .i64 i.s, .int .i64 i.n])] w (Eff (setTh M k { t with v := t.v.set r i.n }) L gm bT oT c w) := by
  obtain ⟨mv, vs, qs, bm, hM, rfl⟩ := h
  have hb := ((Below.refl w.heap.size w).alloc (Nat.le_refl _) (.cells #[.pointer (some ⟨bT, oT + k * 3, none⟩), .pointer (some ⟨gm, 0, none⟩)] 123)).alloc (by simp) (.cells #[.int .i64 i.o, .int .i64 r, .int .i64 i.s, .int .i64 i.n] 118)
  have k0 := (Bk.new w #[.pointer (some ⟨bT, oT + k * 3, none⟩), .pointer (some ⟨gm, 0, none⟩)] 123).alloc (.cells #[.int .i64 i.o, .int .i64 r, .int .i64 i.s, .int .i64 i.n] 118)
  have k1 := Bk.new (w.alloc (.cells #[.pointer (some ⟨bT, oT + k * 3, none⟩), .pointer (some ⟨gm, 0, none⟩)] 123)) #[.int .i64 i.o, .int .i64 r, .int .i64 i.s, .int .i64 i.n] 118
  simp only [World.size_alloc] at k1
  obtain ⟨W0, hW0⟩ : ∃ W0, W0 = (w.alloc (.cells #[.pointer (some ⟨bT, oT + k * 3, none⟩), .pointer (some ⟨gm, 0, none⟩)] 123)).alloc (.cells #[.int .i64 i.o, .int .i64 r, .int .i64 i.s, .int .i64 i.n] 118) := ⟨_, rfl⟩
  rw [← hW0] at hb k0 k1
  have hM0 := hM.below hb
  obtain ⟨bv, ov, cv, f, qa, qb, hp, hq, hbv, hc1, hc2, hval⟩ := hM0.valAt ht (by omega)
  obtain ⟨x0, x1, x2, g0, g1, g2⟩ := hM0.cells ht hp
  obtain ⟨p0, -⟩ := k0.at_ 0 (x := .pointer (some ⟨bT, oT + k * 3, none⟩)) rfl
  obtain ⟨p1, -⟩ := k0.at_ 1 (x := .pointer (some ⟨gm, 0, none⟩)) rfl
  obtain ⟨i1, -⟩ := k1.at_ 1 (x := .int .i64 r) rfl
  obtain ⟨i2, -⟩ := k1.at_ 2 (x := .int .i64 i.s) rfl
  obtain ⟨i3, -⟩ := k1.at_ 3 (x := .int .i64 i.n) rfl
  have HB := Lib.hid hb
  have HW := Lib.hid hW0
  have HM := Lib.hid hM0
  have HL := Lib.hid hl
  have hr4' : (r : Int) < t.v.length := by omega
  have hrl : r < t.v.length := by omega
  obtain ⟨y, hy⟩ : ∃ y, t.v[r]? = some y := ⟨_, List.getElem?_eq_getElem (by omega)⟩
  obtain ⟨vy, fy⟩ := hval r y hy
  have HY := Lib.hid hy
  have HS := Lib.hid (HM.out.setV ht hp hq r hrl i.n)
  unfold coreV
  rw [hr]
  clear hb hW0 hM0 hval k0 k1 hl hy
  go_enter Try.func145, Try.ntmps145
  go_wp2_with fail
  rw [← HW.out]
  go_region
  all_goals go_wp2_with fail
  all_goals go_end0
  all_goals exact (eff_of HS.out.1 ((Only.of_below HB.out _).trans ((Only.setCell _ _).mono fun b hb => by have := HS.out.2; simp at hb; subst hb; simp [this])) (fun b hb => .inl (by simpa [setTh, tblk_len (us := M.ths) List.length_set] using hb)) (by first | exact (Below.refl _ _) | exact (Below.refl _ _).drew | exact below_drewN _ _))
set_option maxHeartbeats 3200000 in
theorem impl_jz (gm bT oT c k r : Nat) (i : Ins) (M : Ma) (t : Th) (L : List Nat) (w : World) (h : MBx w gm bT oT c M L) (ht : M.ths[k]? = some t) (hl : t.v.length = 4) (hr : i.r = r) (hr4 : r < 4) :
    Calls Try.prog 151 #[coreV bT oT k gm, (Value.agg #[.int .i64 i.o, .int .i64 i.r, .int .i64 i.s, .int .i64 i.n])] w (Eff (if t.v.getD r 0 = 0 then setTh M k { t with pc := i.n } else M) L gm bT oT c w) := by
  obtain ⟨mv, vs, qs, bm, hM, rfl⟩ := h
  have hb := ((Below.refl w.heap.size w).alloc (Nat.le_refl _) (.cells #[.pointer (some ⟨bT, oT + k * 3, none⟩), .pointer (some ⟨gm, 0, none⟩)] 123)).alloc (by simp) (.cells #[.int .i64 i.o, .int .i64 r, .int .i64 i.s, .int .i64 i.n] 118)
  have k0 := (Bk.new w #[.pointer (some ⟨bT, oT + k * 3, none⟩), .pointer (some ⟨gm, 0, none⟩)] 123).alloc (.cells #[.int .i64 i.o, .int .i64 r, .int .i64 i.s, .int .i64 i.n] 118)
  have k1 := Bk.new (w.alloc (.cells #[.pointer (some ⟨bT, oT + k * 3, none⟩), .pointer (some ⟨gm, 0, none⟩)] 123)) #[.int .i64 i.o, .int .i64 r, .int .i64 i.s, .int .i64 i.n] 118
  simp only [World.size_alloc] at k1
  obtain ⟨W0, hW0⟩ : ∃ W0, W0 = (w.alloc (.cells #[.pointer (some ⟨bT, oT + k * 3, none⟩), .pointer (some ⟨gm, 0, none⟩)] 123)).alloc (.cells #[.int .i64 i.o, .int .i64 r, .int .i64 i.s, .int .i64 i.n] 118) := ⟨_, rfl⟩
  rw [← hW0] at hb k0 k1
  have hM0 := hM.below hb
  obtain ⟨bv, ov, cv, f, qa, qb, hp, hq, hbv, hc1, hc2, hval⟩ := hM0.valAt ht (by omega)
  obtain ⟨x0, x1, x2, g0, g1, g2⟩ := hM0.cells ht hp
  obtain ⟨p0, -⟩ := k0.at_ 0 (x := .pointer (some ⟨bT, oT + k * 3, none⟩)) rfl
  obtain ⟨p1, -⟩ := k0.at_ 1 (x := .pointer (some ⟨gm, 0, none⟩)) rfl
  obtain ⟨i1, -⟩ := k1.at_ 1 (x := .int .i64 r) rfl
  obtain ⟨i2, -⟩ := k1.at_ 2 (x := .int .i64 i.s) rfl
  obtain ⟨i3, -⟩ := k1.at_ 3 (x := .int .i64 i.n) rfl
  have HB := Lib.hid hb
  have HW := Lib.hid hW0
  have HM := Lib.hid hM0
  have HL := Lib.hid hl
  have hr4' : (r : Int) < t.v.length := by omega
  have hrl : r < t.v.length := by omega
  obtain ⟨y, hy⟩ : ∃ y, t.v[r]? = some y := ⟨_, List.getElem?_eq_getElem (by omega)⟩
  obtain ⟨vy, fy⟩ := hval r y hy
  have HY := Lib.hid hy
  have HGr : Hid (t.v.getD r 0 = y) := Lib.hid (by rw [List.getD_eq_getElem?_getD, HY.out]; rfl)
  rw [HGr.out]
  have HP := Lib.hid (HM.out.setPc ht i.n)
  generalize hM' : (if y = 0 then setTh M k { t with pc := i.n } else M) = M'
  have HM' := Lib.hid hM'
  clear hM'
  unfold coreV
  rw [hr]
  clear hb hW0 hM0 hval k0 k1 hl hy
  go_enter Try.func151, Try.ntmps151
  go_wp2_with fail
  rw [← HW.out]
  by_cases h0 : y = 0
  · have e0 : (y == 0) = true := by simp [h0]
    have e1 := Lib.hid (HM'.out.symm.trans (if_pos h0))
    clear h0
    go_quiet (fail)
    go_wp2_with fail
    go_end0
    rw [e1.out]
    refine eff_of (W1 := (W0.setCell ⟨bT, oT + k * 3, none⟩ (.int .i64 i.n))) HP.out ((Only.of_below HB.out _).trans ((Only.setCell _ _).mono fun b hb => by simp at hb; subst hb; simp [tblk])) (fun b hb => .inl (by simpa [setTh, tblk_len (us := M.ths) List.length_set] using hb)) ?_
    first | exact (Below.refl _ _) | exact (Below.refl _ _).drew | exact below_drewN _ _
  · have e0 : (y == 0) = false := by simp [h0]
    have e1 := Lib.hid (HM'.out.symm.trans (if_neg h0))
    clear h0
    go_quiet (fail)
    go_wp2_with fail
    go_end0
    rw [e1.out]
    refine eff_of HM.out (Only.of_below HB.out _) (fun b hb => .inl hb) ?_
    first | exact (Below.refl _ _) | exact (Below.refl _ _).drew | exact below_drewN _ _
set_option maxHeartbeats 3200000 in
theorem impl_add (gm bT oT c k r s : Nat) (i : Ins) (M : Ma) (t : Th) (L : List Nat) (w : World) (h : MBx w gm bT oT c M L) (ht : M.ths[k]? = some t) (hl : t.v.length = 4) (hr : i.r = r) (hr4 : r < 4) (hs : i.s = s) (hs4 : s < 4) (hv : t.v.all valB = true) :
    Calls Try.prog 146 #[coreV bT oT k gm, (Value.agg #[.int .i64 i.o, .int .i64 i.r, .int .i64 i.s, .int .i64 i.n])] w (Eff (setTh M k { t with v := t.v.set r (clampF (t.v.getD r 0 + t.v.getD s 0)) }) L gm bT oT c w) := by
  obtain ⟨mv, vs, qs, bm, hM, rfl⟩ := h
  have hb := ((Below.refl w.heap.size w).alloc (Nat.le_refl _) (.cells #[.pointer (some ⟨bT, oT + k * 3, none⟩), .pointer (some ⟨gm, 0, none⟩)] 123)).alloc (by simp) (.cells #[.int .i64 i.o, .int .i64 r, .int .i64 s, .int .i64 i.n] 118)
  have k0 := (Bk.new w #[.pointer (some ⟨bT, oT + k * 3, none⟩), .pointer (some ⟨gm, 0, none⟩)] 123).alloc (.cells #[.int .i64 i.o, .int .i64 r, .int .i64 s, .int .i64 i.n] 118)
  have k1 := Bk.new (w.alloc (.cells #[.pointer (some ⟨bT, oT + k * 3, none⟩), .pointer (some ⟨gm, 0, none⟩)] 123)) #[.int .i64 i.o, .int .i64 r, .int .i64 s, .int .i64 i.n] 118
  simp only [World.size_alloc] at k1
  obtain ⟨W0, hW0⟩ : ∃ W0, W0 = (w.alloc (.cells #[.pointer (some ⟨bT, oT + k * 3, none⟩), .pointer (some ⟨gm, 0, none⟩)] 123)).alloc (.cells #[.int .i64 i.o, .int .i64 r, .int .i64 s, .int .i64 i.n] 118) := ⟨_, rfl⟩
  rw [← hW0] at hb k0 k1
  have hM0 := hM.below hb
  obtain ⟨bv, ov, cv, f, qa, qb, hp, hq, hbv, hc1, hc2, hval⟩ := hM0.valAt ht (by omega)
  obtain ⟨x0, x1, x2, g0, g1, g2⟩ := hM0.cells ht hp
  obtain ⟨p0, -⟩ := k0.at_ 0 (x := .pointer (some ⟨bT, oT + k * 3, none⟩)) rfl
  obtain ⟨p1, -⟩ := k0.at_ 1 (x := .pointer (some ⟨gm, 0, none⟩)) rfl
  obtain ⟨i1, -⟩ := k1.at_ 1 (x := .int .i64 r) rfl
  obtain ⟨i2, -⟩ := k1.at_ 2 (x := .int .i64 s) rfl
  obtain ⟨i3, -⟩ := k1.at_ 3 (x := .int .i64 i.n) rfl
  have HB := Lib.hid hb
  have HW := Lib.hid hW0
  have HM := Lib.hid hM0
  have HL := Lib.hid hl
  have hr4' : (r : Int) < t.v.length := by omega
  have hrl : r < t.v.length := by omega
  obtain ⟨y, hy⟩ : ∃ y, t.v[r]? = some y := ⟨_, List.getElem?_eq_getElem (by omega)⟩
  obtain ⟨vy, fy⟩ := hval r y hy
  have HY := Lib.hid hy
  have hs4' : (s : Int) < t.v.length := by omega
  have hsl : s < t.v.length := by omega
  obtain ⟨z, hz⟩ : ∃ z, t.v[s]? = some z := ⟨_, List.getElem?_eq_getElem (by omega)⟩
  obtain ⟨vz, fz⟩ := hval s z hz
  have HZ := Lib.hid hz
  have HGr : Hid (t.v.getD r 0 = y) := Lib.hid (by rw [List.getD_eq_getElem?_getD, HY.out]; rfl)
  have HGs : Hid (t.v.getD s 0 = z) := Lib.hid (by rw [List.getD_eq_getElem?_getD, HZ.out]; rfl)
  rw [List.all_eq_true] at hv
  have hyb := inB_true (hv y (List.mem_of_getElem? HY.out))
  have hzb := inB_true (hv z (List.mem_of_getElem? HZ.out))
  have hsum : IntKind.i64.wrap (y + z) = y + z := IntWalk.i64_in _ (by omega)
  rw [HGr.out, HGs.out]
  clear hv
  have HSS := Lib.hid (HM.out.setV ht hp hq r hrl (clampF (y + z)))
  unfold coreV
  rw [hr, hs]
  clear hb hW0 hM0 hval k0 k1 hl hy hz
  go_enter Try.func146, Try.ntmps146
  go_wp2_with fail
  rw [← HW.out]
  refine wp_region_still_tail 28 (by kernel_rfl) (by kernel_rfl) ?_
  simp only [List.take_succ_cons, List.take_zero, List.drop_succ_cons, List.drop_zero]
  rw [show ({ W0 with drawn := W0.drawn + 1 } : World) = W0.drew from rfl]
  repeat (first
    | still_step
    | still_call (clamp_still _ _))
  try refine wpStill_nil ?_
  all_goals
    go_wp2_with fail
    go_end0
    exact eff_of HSS.out.1 ((Only.of_below HB.out _).trans ((Only.setCell _ _).mono fun b hb => by have := HSS.out.2; simp at hb; subst hb; simp [this])) (fun b hb => .inl (by simpa [setTh, tblk_len (us := M.ths) List.length_set] using hb)) (by first | exact (Below.refl _ _) | exact (Below.refl _ _).drew | exact below_drewN _ _)
set_option maxHeartbeats 3200000 in
theorem impl_sub (gm bT oT c k r s : Nat) (i : Ins) (M : Ma) (t : Th) (L : List Nat) (w : World) (h : MBx w gm bT oT c M L) (ht : M.ths[k]? = some t) (hl : t.v.length = 4) (hr : i.r = r) (hr4 : r < 4) (hs : i.s = s) (hs4 : s < 4) (hv : t.v.all valB = true) :
    Calls Try.prog 153 #[coreV bT oT k gm, (Value.agg #[.int .i64 i.o, .int .i64 i.r, .int .i64 i.s, .int .i64 i.n])] w (Eff (setTh M k { t with v := t.v.set r (clampF (t.v.getD r 0 - t.v.getD s 0)) }) L gm bT oT c w) := by
  obtain ⟨mv, vs, qs, bm, hM, rfl⟩ := h
  have hb := ((Below.refl w.heap.size w).alloc (Nat.le_refl _) (.cells #[.pointer (some ⟨bT, oT + k * 3, none⟩), .pointer (some ⟨gm, 0, none⟩)] 123)).alloc (by simp) (.cells #[.int .i64 i.o, .int .i64 r, .int .i64 s, .int .i64 i.n] 118)
  have k0 := (Bk.new w #[.pointer (some ⟨bT, oT + k * 3, none⟩), .pointer (some ⟨gm, 0, none⟩)] 123).alloc (.cells #[.int .i64 i.o, .int .i64 r, .int .i64 s, .int .i64 i.n] 118)
  have k1 := Bk.new (w.alloc (.cells #[.pointer (some ⟨bT, oT + k * 3, none⟩), .pointer (some ⟨gm, 0, none⟩)] 123)) #[.int .i64 i.o, .int .i64 r, .int .i64 s, .int .i64 i.n] 118
  simp only [World.size_alloc] at k1
  obtain ⟨W0, hW0⟩ : ∃ W0, W0 = (w.alloc (.cells #[.pointer (some ⟨bT, oT + k * 3, none⟩), .pointer (some ⟨gm, 0, none⟩)] 123)).alloc (.cells #[.int .i64 i.o, .int .i64 r, .int .i64 s, .int .i64 i.n] 118) := ⟨_, rfl⟩
  rw [← hW0] at hb k0 k1
  have hM0 := hM.below hb
  obtain ⟨bv, ov, cv, f, qa, qb, hp, hq, hbv, hc1, hc2, hval⟩ := hM0.valAt ht (by omega)
  obtain ⟨x0, x1, x2, g0, g1, g2⟩ := hM0.cells ht hp
  obtain ⟨p0, -⟩ := k0.at_ 0 (x := .pointer (some ⟨bT, oT + k * 3, none⟩)) rfl
  obtain ⟨p1, -⟩ := k0.at_ 1 (x := .pointer (some ⟨gm, 0, none⟩)) rfl
  obtain ⟨i1, -⟩ := k1.at_ 1 (x := .int .i64 r) rfl
  obtain ⟨i2, -⟩ := k1.at_ 2 (x := .int .i64 s) rfl
  obtain ⟨i3, -⟩ := k1.at_ 3 (x := .int .i64 i.n) rfl
  have HB := Lib.hid hb
  have HW := Lib.hid hW0
  have HM := Lib.hid hM0
  have HL := Lib.hid hl
  have hr4' : (r : Int) < t.v.length := by omega
  have hrl : r < t.v.length := by omega
  obtain ⟨y, hy⟩ : ∃ y, t.v[r]? = some y := ⟨_, List.getElem?_eq_getElem (by omega)⟩
  obtain ⟨vy, fy⟩ := hval r y hy
  have HY := Lib.hid hy
  have hs4' : (s : Int) < t.v.length := by omega
  have hsl : s < t.v.length := by omega
  obtain ⟨z, hz⟩ : ∃ z, t.v[s]? = some z := ⟨_, List.getElem?_eq_getElem (by omega)⟩
  obtain ⟨vz, fz⟩ := hval s z hz
  have HZ := Lib.hid hz
  have HGr : Hid (t.v.getD r 0 = y) := Lib.hid (by rw [List.getD_eq_getElem?_getD, HY.out]; rfl)
  have HGs : Hid (t.v.getD s 0 = z) := Lib.hid (by rw [List.getD_eq_getElem?_getD, HZ.out]; rfl)
  rw [List.all_eq_true] at hv
  have hyb := inB_true (hv y (List.mem_of_getElem? HY.out))
  have hzb := inB_true (hv z (List.mem_of_getElem? HZ.out))
  have hsum : IntKind.i64.wrap (y - z) = y - z := IntWalk.i64_in _ (by omega)
  rw [HGr.out, HGs.out]
  clear hv
  have HSS := Lib.hid (HM.out.setV ht hp hq r hrl (clampF (y - z)))
  unfold coreV
  rw [hr, hs]
  clear hb hW0 hM0 hval k0 k1 hl hy hz
  go_enter Try.func153, Try.ntmps153
  go_wp2_with fail
  rw [← HW.out]
  refine wp_region_still_tail 28 (by kernel_rfl) (by kernel_rfl) ?_
  simp only [List.take_succ_cons, List.take_zero, List.drop_succ_cons, List.drop_zero]
  rw [show ({ W0 with drawn := W0.drawn + 1 } : World) = W0.drew from rfl]
  repeat (first
    | still_step
    | still_call (clamp_still _ _))
  try refine wpStill_nil ?_
  all_goals
    go_wp2_with fail
    go_end0
    exact eff_of HSS.out.1 ((Only.of_below HB.out _).trans ((Only.setCell _ _).mono fun b hb => by have := HSS.out.2; simp at hb; subst hb; simp [this])) (fun b hb => .inl (by simpa [setTh, tblk_len (us := M.ths) List.length_set] using hb)) (by first | exact (Below.refl _ _) | exact (Below.refl _ _).drew | exact below_drewN _ _)
set_option maxHeartbeats 3200000 in
theorem impl_cas (gm bT oT c k r s a : Nat) (i : Ins) (M : Ma) (t : Th) (L : List Nat) (w : World) (h : MBx w gm bT oT c M L) (ht : M.ths[k]? = some t) (hl : t.v.length = 4) (hr : i.r = r) (hr4 : r < 4) (hs : i.s = s) (hs4 : s < 4) (hn : i.n = a) (ha : a < M.mem.length) :
    Calls Try.prog 150 #[coreV bT oT k gm, (Value.agg #[.int .i64 i.o, .int .i64 i.r, .int .i64 i.s, .int .i64 i.n])] w (Eff (if M.mem.getD a 0 = t.v.getD r 0 then ⟨M.mem.set a (t.v.getD s 0), M.ths.set k { t with v := t.v.set r 1 }⟩ else setTh M k { t with v := t.v.set r 0 }) L gm bT oT c w) := by
  obtain ⟨mv, vs, qs, bm, hM, rfl⟩ := h
  have hb := ((Below.refl w.heap.size w).alloc (Nat.le_refl _) (.cells #[.pointer (some ⟨bT, oT + k * 3, none⟩), .pointer (some ⟨gm, 0, none⟩)] 123)).alloc (by simp) (.cells #[.int .i64 i.o, .int .i64 r, .int .i64 s, .int .i64 a] 118)
  have k0 := (Bk.new w #[.pointer (some ⟨bT, oT + k * 3, none⟩), .pointer (some ⟨gm, 0, none⟩)] 123).alloc (.cells #[.int .i64 i.o, .int .i64 r, .int .i64 s, .int .i64 a] 118)
  have k1 := Bk.new (w.alloc (.cells #[.pointer (some ⟨bT, oT + k * 3, none⟩), .pointer (some ⟨gm, 0, none⟩)] 123)) #[.int .i64 i.o, .int .i64 r, .int .i64 s, .int .i64 a] 118
  simp only [World.size_alloc] at k1
  obtain ⟨W0, hW0⟩ : ∃ W0, W0 = (w.alloc (.cells #[.pointer (some ⟨bT, oT + k * 3, none⟩), .pointer (some ⟨gm, 0, none⟩)] 123)).alloc (.cells #[.int .i64 i.o, .int .i64 r, .int .i64 s, .int .i64 a] 118) := ⟨_, rfl⟩
  rw [← hW0] at hb k0 k1
  have hM0 := hM.below hb
  obtain ⟨bv, ov, cv, f, qa, qb, hp, hq, hbv, hc1, hc2, hval⟩ := hM0.valAt ht (by omega)
  obtain ⟨x0, x1, x2, g0, g1, g2⟩ := hM0.cells ht hp
  obtain ⟨p0, -⟩ := k0.at_ 0 (x := .pointer (some ⟨bT, oT + k * 3, none⟩)) rfl
  obtain ⟨p1, -⟩ := k0.at_ 1 (x := .pointer (some ⟨gm, 0, none⟩)) rfl
  obtain ⟨i1, -⟩ := k1.at_ 1 (x := .int .i64 r) rfl
  obtain ⟨i2, -⟩ := k1.at_ 2 (x := .int .i64 s) rfl
  obtain ⟨i3, -⟩ := k1.at_ 3 (x := .int .i64 a) rfl
  have HB := Lib.hid hb
  have HW := Lib.hid hW0
  have HM := Lib.hid hM0
  have HL := Lib.hid hl
  have hr4' : (r : Int) < t.v.length := by omega
  have hrl : r < t.v.length := by omega
  obtain ⟨y, hy⟩ : ∃ y, t.v[r]? = some y := ⟨_, List.getElem?_eq_getElem (by omega)⟩
  obtain ⟨vy, fy⟩ := hval r y hy
  have HY := Lib.hid hy
  have hs4' : (s : Int) < t.v.length := by omega
  have hsl : s < t.v.length := by omega
  obtain ⟨z, hz⟩ : ∃ z, t.v[s]? = some z := ⟨_, List.getElem?_eq_getElem (by omega)⟩
  obtain ⟨vz, fz⟩ := hval s z hz
  have HZ := Lib.hid hz
  have hmR := hM0.mem
  obtain ⟨mo, mf⟩ := hM0.box.at_ 0 (x := mv) rfl
  obtain ⟨bc, oc, cc, rfl, rfl, hbcl, hmat, hcc1, hcc2⟩ := hmR.open_ (by omega)
  obtain ⟨u, hu⟩ : ∃ u, M.mem[a]? = some u := ⟨_, List.getElem?_eq_getElem (by omega)⟩
  obtain ⟨vu, fu⟩ := hmat a (.int .i64 u) (by simp [ints, hu])
  have HU := Lib.hid hu
  have ha' : (a : Int) < M.mem.length := by omega
  have HGr : Hid (t.v.getD r 0 = y) := Lib.hid (by rw [List.getD_eq_getElem?_getD, HY.out]; rfl)
  have HGs : Hid (t.v.getD s 0 = z) := Lib.hid (by rw [List.getD_eq_getElem?_getD, HZ.out]; rfl)
  have HGa : Hid (M.mem.getD a 0 = u) := Lib.hid (by rw [List.getD_eq_getElem?_getD, HU.out]; rfl)
  have lc := k0.lt
  have li := k1.lt
  have hbb : bv ≠ bc := fun e => HM.out.d1 bc (by simp) (e ▸ (HM.out.setV ht hp hq r hrl 0).2)
  have hbb' : bc ≠ bv := Ne.symm hbb
  have hbw : bc < w.heap.size := hM.lt bc (by simp)
  have n0 : ¬ w.heap.size = bc := by omega
  have n0' : ¬ bc = w.heap.size := by omega
  have n1 : ¬ w.heap.size + 1 = bc := by omega
  have n1' : ¬ bc = w.heap.size + 1 := by omega
  have n2 : ¬ bc = bT := fun e => HM.out.d1 bc (by simp) (by rw [e]; simp [tblk])
  have n2' : ¬ bT = bc := fun e => n2 e.symm
  rw [HGs.out, HGa.out, HGr.out]
  have HSF := Lib.hid (HM.out.setV ht hp hq r hrl 0)
  have HS1 := Lib.hid (HM.out.setM a ha z)
  have HS2 := Lib.hid (HS1.out.1.setV ht hp hq r hrl 1)
  generalize hM' : (if u = y then (⟨M.mem.set a z, M.ths.set k { t with v := t.v.set r 1 }⟩ : Ma) else setTh M k { t with v := t.v.set r 0 }) = M'
  have HM' := Lib.hid hM'
  clear hM'
  unfold coreV
  rw [hr, hs, hn]
  clear hb hW0 hM0 hval k0 k1 hl hy hz hu hmat hmR
  go_enter Try.func150, Try.ntmps150
  go_wp2_with fail
  rw [← HW.out]
  by_cases h0 : u = y
  · have e0 : (u == y) = true := by simp [h0]
    have e2 : (u != y) = false := by simp [h0]
    have e1 := Lib.hid (HM'.out.symm.trans (if_pos h0))
    clear h0
    go_quiet (fail)
    go_wp2_with fail
    go_quiet (fail)
    go_wp2_with fail
    go_region
    all_goals go_wp2_with fail
    all_goals go_region
    all_goals go_wp2_with fail
    all_goals go_end0
    all_goals rw [e1.out]
    all_goals exact eff_of HS2.out.1 (((Only.of_below HB.out _).trans ((Only.setCell _ _).mono fun b hb => by simp at hb; subst hb; simp)).trans ((Only.setCell _ _).mono fun b hb => by have := HS2.out.2; simp at hb; subst hb; simp [this])) (fun b hb => .inl (by simpa [setTh, tblk_len (us := M.ths) List.length_set] using hb)) (by first | exact (Below.refl _ _) | exact (Below.refl _ _).drew | exact below_drewN _ _ | exact (below_drewN _ _).drew | exact (below_drewN _ _).drew.drew)
  · have e0 : (u == y) = false := by simp [h0]
    have e2 : (u != y) = true := by simp [h0]
    have e1 := Lib.hid (HM'.out.symm.trans (if_neg h0))
    clear h0
    go_quiet (fail)
    go_wp2_with fail
    go_quiet (fail)
    go_wp2_with fail
    go_region
    all_goals go_wp2_with fail
    all_goals go_end0
    all_goals rw [e1.out]
    all_goals exact eff_of HSF.out.1 ((Only.of_below HB.out _).trans ((Only.setCell _ _).mono fun b hb => by have := HSF.out.2; simp at hb; subst hb; simp [this])) (fun b hb => .inl (by simpa [setTh, tblk_len (us := M.ths) List.length_set] using hb)) (by first | exact (Below.refl _ _) | exact (Below.refl _ _).drew | exact below_drewN _ _ | exact (below_drewN _ _).drew | exact (below_drewN _ _).drew.drew)
set_option maxHeartbeats 3200000 in
theorem impl_load (gm bT oT c k r : Nat) (i : Ins) (M : Ma) (t : Th) (L : List Nat) (w : World) (h : MBx w gm bT oT c M L) (ht : M.ths[k]? = some t) (hl : t.v.length = 4) (hr : i.r = r) (hr4 : r < 4) (hwf : (Lit.int .i64 i.n).wf = true) :
    Calls Try.prog 147 #[coreV bT oT k gm, (Value.agg #[.int .i64 i.o, .int .i64 i.r, .int .i64 i.s, .int .i64 i.n])] w (Eff (setTh M k { t with v := t.v.set r (readF3 t.f M.mem i.n) }) L gm bT oT c w) := by
  obtain ⟨mv, vs, qs, bm, hM, rfl⟩ := h
  have hb := ((Below.refl w.heap.size w).alloc (Nat.le_refl _) (.cells #[.pointer (some ⟨bT, oT + k * 3, none⟩), .pointer (some ⟨gm, 0, none⟩)] 123)).alloc (by simp) (.cells #[.int .i64 i.o, .int .i64 r, .int .i64 i.s, .int .i64 i.n] 118)
  have k0 := (Bk.new w #[.pointer (some ⟨bT, oT + k * 3, none⟩), .pointer (some ⟨gm, 0, none⟩)] 123).alloc (.cells #[.int .i64 i.o, .int .i64 r, .int .i64 i.s, .int .i64 i.n] 118)
  have k1 := Bk.new (w.alloc (.cells #[.pointer (some ⟨bT, oT + k * 3, none⟩), .pointer (some ⟨gm, 0, none⟩)] 123)) #[.int .i64 i.o, .int .i64 r, .int .i64 i.s, .int .i64 i.n] 118
  simp only [World.size_alloc] at k1
  obtain ⟨W0, hW0⟩ : ∃ W0, W0 = (w.alloc (.cells #[.pointer (some ⟨bT, oT + k * 3, none⟩), .pointer (some ⟨gm, 0, none⟩)] 123)).alloc (.cells #[.int .i64 i.o, .int .i64 r, .int .i64 i.s, .int .i64 i.n] 118) := ⟨_, rfl⟩
  rw [← hW0] at hb k0 k1
  have hM0 := hM.below hb
  obtain ⟨bv, ov, cv, f, qa, qb, hp, hq, hbv, hc1, hc2, hval⟩ := hM0.valAt ht (by omega)
  obtain ⟨x0, x1, x2, g0, g1, g2⟩ := hM0.cells ht hp
  obtain ⟨p0, -⟩ := k0.at_ 0 (x := .pointer (some ⟨bT, oT + k * 3, none⟩)) rfl
  obtain ⟨p1, -⟩ := k0.at_ 1 (x := .pointer (some ⟨gm, 0, none⟩)) rfl
  obtain ⟨i1, -⟩ := k1.at_ 1 (x := .int .i64 r) rfl
  obtain ⟨i2, -⟩ := k1.at_ 2 (x := .int .i64 i.s) rfl
  obtain ⟨i3, -⟩ := k1.at_ 3 (x := .int .i64 i.n) rfl
  have HB := Lib.hid hb
  have HW := Lib.hid hW0
  have HM := Lib.hid hM0
  have HL := Lib.hid hl
  have hr4' : (r : Int) < t.v.length := by omega
  have hrl : r < t.v.length := by omega
  obtain ⟨y, hy⟩ : ∃ y, t.v[r]? = some y := ⟨_, List.getElem?_eq_getElem (by omega)⟩
  obtain ⟨vy, fy⟩ := hval r y hy
  have HY := Lib.hid hy
  have hmR := hM0.mem
  obtain ⟨mo, mf⟩ := hM0.box.at_ 0 (x := mv) rfl
  have hbw : bv < w.heap.size := hM.lt bv (by have := (hM0.setV ht hp hq r hrl 0).2; simp [this])
  have HF := Lib.hid (hM0.ths.buf ht hp hq).rd
  have HMM := Lib.hid hM0.mem.rd
  have lc := k0.lt
  have li := k1.lt
  have key : ∀ W : World, W.cell? ⟨w.heap.size, 0, none⟩ = some (.pointer (some ⟨bT, oT + k * 3, none⟩)) ∧ W.cell? ⟨w.heap.size, 1, none⟩ = some (.pointer (some ⟨gm, 0, none⟩)) ∧ W.cell? ⟨w.heap.size + 1, 1, none⟩ = some (.int .i64 r) ∧ W.cell? ⟨w.heap.size + 1, 3, none⟩ = some (.int .i64 i.n) → Hid (∃ M' t', MB W gm bT oT c mv M' vs qs bm ∧ M'.ths[k]? = some t' ∧ t'.v.length = t.v.length) → (W.cell? ⟨w.heap.size, 0, none⟩ = some (.pointer (some ⟨bT, oT + k * 3, none⟩)) ∧ W.cell? ⟨w.heap.size, 1, none⟩ = some (.pointer (some ⟨gm, 0, none⟩)) ∧ W.cell? ⟨w.heap.size + 1, 1, none⟩ = some (.int .i64 r) ∧ W.cell? ⟨w.heap.size + 1, 3, none⟩ = some (.int .i64 i.n) ∧ W.cell? ⟨bT, oT + k * 3 + 1, none⟩ = some (.slice (some ⟨bv, ov, none⟩) t.v.length cv) ∧ W.cell? ⟨bT, oT + k * 3 + 2, none⟩ = some f ∧ W.cell? ⟨gm, 0, none⟩ = some mv ∧ (W.cell? ⟨bv, ov + r, none⟩).isSome = true ∧ W.frozen? ⟨bv, ov + r, none⟩ = false ∧ Hid (∃ M' t', MB W gm bT oT c mv M' vs qs bm ∧ M'.ths[k]? = some t' ∧ t'.v.length = t.v.length)) := by
    intro W q h
    obtain ⟨M', t', hm, ht', hl'⟩ := h.out
    obtain ⟨-, y1, y2, -, -, -⟩ := hm.cells ht' hp
    obtain ⟨bv', ov', cv', f', qa', qb', hp', -, -, -, -, hv'⟩ := hm.valAt ht' (by omega)
    rw [hp] at hp'
    simp only [Option.some.injEq, Prod.mk.injEq, Value.slice.injEq, Addr.mk.injEq] at hp'
    obtain ⟨⟨⟨rfl, rfl, -⟩, -, -⟩, -⟩ := hp'
    obtain ⟨y, hy⟩ : ∃ y, t'.v[r]? = some y := ⟨_, List.getElem?_eq_getElem (by omega)⟩
    obtain ⟨v1, v2⟩ := hv' r y hy
    exact ⟨q.1, q.2.1, q.2.2.1, q.2.2.2, y1, y2, (hm.box.at_ 0 (x := mv) rfl).1, by rw [v1]; rfl, v2, h⟩
  have HK : Hid (∀ W : World, Below W0.heap.size W0 W → (W.cell? ⟨w.heap.size, 0, none⟩ = some (.pointer (some ⟨bT, oT + k * 3, none⟩)) ∧ W.cell? ⟨w.heap.size, 1, none⟩ = some (.pointer (some ⟨gm, 0, none⟩)) ∧ W.cell? ⟨w.heap.size + 1, 1, none⟩ = some (.int .i64 r) ∧ W.cell? ⟨w.heap.size + 1, 3, none⟩ = some (.int .i64 i.n) ∧ W.cell? ⟨bT, oT + k * 3 + 1, none⟩ = some (.slice (some ⟨bv, ov, none⟩) t.v.length cv) ∧ W.cell? ⟨bT, oT + k * 3 + 2, none⟩ = some f ∧ W.cell? ⟨gm, 0, none⟩ = some mv ∧ (W.cell? ⟨bv, ov + r, none⟩).isSome = true ∧ W.frozen? ⟨bv, ov + r, none⟩ = false ∧ Hid (∃ M' t', MB W gm bT oT c mv M' vs qs bm ∧ M'.ths[k]? = some t' ∧ t'.v.length = t.v.length))) := Lib.hid fun W hW => key W ⟨(hW.cell (p := ⟨w.heap.size, 0, none⟩) lc).trans p0, (hW.cell (p := ⟨w.heap.size, 1, none⟩) lc).trans p1, (hW.cell (p := ⟨w.heap.size + 1, 1, none⟩) li).trans i1, (hW.cell (p := ⟨w.heap.size + 1, 3, none⟩) li).trans i3⟩ (Lib.hid ⟨M, t, HM.out.below hW, ht, rfl⟩)
  have HKD : Hid (∀ W : World, (W.cell? ⟨w.heap.size, 0, none⟩ = some (.pointer (some ⟨bT, oT + k * 3, none⟩)) ∧ W.cell? ⟨w.heap.size, 1, none⟩ = some (.pointer (some ⟨gm, 0, none⟩)) ∧ W.cell? ⟨w.heap.size + 1, 1, none⟩ = some (.int .i64 r) ∧ W.cell? ⟨w.heap.size + 1, 3, none⟩ = some (.int .i64 i.n) ∧ W.cell? ⟨bT, oT + k * 3 + 1, none⟩ = some (.slice (some ⟨bv, ov, none⟩) t.v.length cv) ∧ W.cell? ⟨bT, oT + k * 3 + 2, none⟩ = some f ∧ W.cell? ⟨gm, 0, none⟩ = some mv ∧ (W.cell? ⟨bv, ov + r, none⟩).isSome = true ∧ W.frozen? ⟨bv, ov + r, none⟩ = false ∧ Hid (∃ M' t', MB W gm bT oT c mv M' vs qs bm ∧ M'.ths[k]? = some t' ∧ t'.v.length = t.v.length)) → (W.drew.cell? ⟨w.heap.size, 0, none⟩ = some (.pointer (some ⟨bT, oT + k * 3, none⟩)) ∧ W.drew.cell? ⟨w.heap.size, 1, none⟩ = some (.pointer (some ⟨gm, 0, none⟩)) ∧ W.drew.cell? ⟨w.heap.size + 1, 1, none⟩ = some (.int .i64 r) ∧ W.drew.cell? ⟨w.heap.size + 1, 3, none⟩ = some (.int .i64 i.n) ∧ W.drew.cell? ⟨bT, oT + k * 3 + 1, none⟩ = some (.slice (some ⟨bv, ov, none⟩) t.v.length cv) ∧ W.drew.cell? ⟨bT, oT + k * 3 + 2, none⟩ = some f ∧ W.drew.cell? ⟨gm, 0, none⟩ = some mv ∧ (W.drew.cell? ⟨bv, ov + r, none⟩).isSome = true ∧ W.drew.frozen? ⟨bv, ov + r, none⟩ = false ∧ Hid (∃ M' t', MB W.drew gm bT oT c mv M' vs qs bm ∧ M'.ths[k]? = some t' ∧ t'.v.length = t.v.length))) := Lib.hid fun W h => by
    obtain ⟨M', t', hm, ht', hl'⟩ := h.2.2.2.2.2.2.2.2.2.out
    exact key W.drew ⟨h.1, h.2.1, h.2.2.1, h.2.2.2.1⟩ (Lib.hid ⟨M', t', hm.below (Below.refl _ _).drew, ht', hl'⟩)
  have HKS : Hid (∀ (W : World) (x : Int), (W.cell? ⟨w.heap.size, 0, none⟩ = some (.pointer (some ⟨bT, oT + k * 3, none⟩)) ∧ W.cell? ⟨w.heap.size, 1, none⟩ = some (.pointer (some ⟨gm, 0, none⟩)) ∧ W.cell? ⟨w.heap.size + 1, 1, none⟩ = some (.int .i64 r) ∧ W.cell? ⟨w.heap.size + 1, 3, none⟩ = some (.int .i64 i.n) ∧ W.cell? ⟨bT, oT + k * 3 + 1, none⟩ = some (.slice (some ⟨bv, ov, none⟩) t.v.length cv) ∧ W.cell? ⟨bT, oT + k * 3 + 2, none⟩ = some f ∧ W.cell? ⟨gm, 0, none⟩ = some mv ∧ (W.cell? ⟨bv, ov + r, none⟩).isSome = true ∧ W.frozen? ⟨bv, ov + r, none⟩ = false ∧ Hid (∃ M' t', MB W gm bT oT c mv M' vs qs bm ∧ M'.ths[k]? = some t' ∧ t'.v.length = t.v.length)) → ((W.setCell ⟨bv, ov + r, none⟩ (.int .i64 x)).cell? ⟨w.heap.size, 0, none⟩ = some (.pointer (some ⟨bT, oT + k * 3, none⟩)) ∧ (W.setCell ⟨bv, ov + r, none⟩ (.int .i64 x)).cell? ⟨w.heap.size, 1, none⟩ = some (.pointer (some ⟨gm, 0, none⟩)) ∧ (W.setCell ⟨bv, ov + r, none⟩ (.int .i64 x)).cell? ⟨w.heap.size + 1, 1, none⟩ = some (.int .i64 r) ∧ (W.setCell ⟨bv, ov + r, none⟩ (.int .i64 x)).cell? ⟨w.heap.size + 1, 3, none⟩ = some (.int .i64 i.n) ∧ (W.setCell ⟨bv, ov + r, none⟩ (.int .i64 x)).cell? ⟨bT, oT + k * 3 + 1, none⟩ = some (.slice (some ⟨bv, ov, none⟩) t.v.length cv) ∧ (W.setCell ⟨bv, ov + r, none⟩ (.int .i64 x)).cell? ⟨bT, oT + k * 3 + 2, none⟩ = some f ∧ (W.setCell ⟨bv, ov + r, none⟩ (.int .i64 x)).cell? ⟨gm, 0, none⟩ = some mv ∧ ((W.setCell ⟨bv, ov + r, none⟩ (.int .i64 x)).cell? ⟨bv, ov + r, none⟩).isSome = true ∧ (W.setCell ⟨bv, ov + r, none⟩ (.int .i64 x)).frozen? ⟨bv, ov + r, none⟩ = false ∧ Hid (∃ M' t', MB (W.setCell ⟨bv, ov + r, none⟩ (.int .i64 x)) gm bT oT c mv M' vs qs bm ∧ M'.ths[k]? = some t' ∧ t'.v.length = t.v.length))) := Lib.hid fun W x h => by
    obtain ⟨M', t', hm, ht', hl'⟩ := h.2.2.2.2.2.2.2.2.2.out
    have m1 : ∀ o, (W.setCell ⟨bv, ov + r, none⟩ (.int .i64 x)).cell? ⟨w.heap.size, o, none⟩ = W.cell? ⟨w.heap.size, o, none⟩ := fun o => World.cell?_setCell_far _ _ _ _ (by simp; omega)
    have m2 : ∀ o, (W.setCell ⟨bv, ov + r, none⟩ (.int .i64 x)).cell? ⟨w.heap.size + 1, o, none⟩ = W.cell? ⟨w.heap.size + 1, o, none⟩ := fun o => World.cell?_setCell_far _ _ _ _ (by simp; omega)
    refine key _ ⟨(m1 0).trans h.1, (m1 1).trans h.2.1, (m2 1).trans h.2.2.1, (m2 3).trans h.2.2.2.1⟩ (Lib.hid ⟨_, _, (hm.setV ht' hp hq r (by omega) x).1, by simp [List.getElem?_set, (List.getElem?_eq_some_iff.1 ht').1]; rfl, by simp [hl']⟩)
  unfold coreV
  rw [hr]
  clear hb hW0 hM0 hval k0 k1 hl hy
  go_enter Try.func147, Try.ntmps147
  go_wp2_with fail
  rw [← HW.out]
  go_region_held3 (fun W => (W.cell? ⟨w.heap.size, 0, none⟩ = some (.pointer (some ⟨bT, oT + k * 3, none⟩)) ∧ W.cell? ⟨w.heap.size, 1, none⟩ = some (.pointer (some ⟨gm, 0, none⟩)) ∧ W.cell? ⟨w.heap.size + 1, 1, none⟩ = some (.int .i64 r) ∧ W.cell? ⟨w.heap.size + 1, 3, none⟩ = some (.int .i64 i.n) ∧ W.cell? ⟨bT, oT + k * 3 + 1, none⟩ = some (.slice (some ⟨bv, ov, none⟩) t.v.length cv) ∧ W.cell? ⟨bT, oT + k * 3 + 2, none⟩ = some f ∧ W.cell? ⟨gm, 0, none⟩ = some mv ∧ (W.cell? ⟨bv, ov + r, none⟩).isSome = true ∧ W.frozen? ⟨bv, ov + r, none⟩ = false ∧ Hid (∃ M' t', MB W gm bT oT c mv M' vs qs bm ∧ M'.ths[k]? = some t' ∧ t'.v.length = t.v.length))) (first | (assumption) | (exact HK.out _ (Below.refl _ _).drew) | (exact HK.out _ (by assumption)) | (exact HKS.out _ _ (by assumption)) | (exact HKD.out _ (HKS.out _ _ (by assumption))))
    (first
      | (go_at_call 165; refine (impl_ReadThrough _ _ t.f M.mem i.n _ (HF.out.below (Below.refl _ _).drew) (HMM.out.below (Below.refl _ _).drew) hwf).mono ?_; rintro e w9 ⟨rfl, hb9⟩; have hb0 := (Below.refl W0.heap.size W0).drew.trans hb9; have vy9 := (hb0.cell (p := ⟨bv, ov + r, none⟩) hbv).trans vy; have fy9 := (World.frozen?_of_block (a := ⟨bv, ov + r, none⟩) (hb0.block _ hbv)).trans fy))
  all_goals
    go_wp2_with fail
    go_end0
    have hSS := (HM.out.below (‹Below W0.heap.size W0 _›)).setV ht hp hq r hrl (readF3 t.f M.mem i.n)
    exact eff_of hSS.1 ((Only.of_below (HB.out.trans ((‹Below W0.heap.size W0 _›).mono HB.out.size)) _).trans ((Only.setCell _ _).mono fun b hb => by have := hSS.2; simp at hb; subst hb; simp [this])) (fun b hb => .inl (by simpa [setTh, tblk_len (us := M.ths) List.length_set] using hb)) (by first | exact (Below.refl _ _) | exact (Below.refl _ _).drew | exact below_drewN _ _ | exact (below_drewN _ _).drew | exact (below_drewN _ _).drew.drew)
end Go.Proofs.Ytiflooopfpcelaa
