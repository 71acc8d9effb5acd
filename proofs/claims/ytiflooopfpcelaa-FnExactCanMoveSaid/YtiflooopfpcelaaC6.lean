/- Contracts of Moves, of both sides, and of CanMove. Condition: the program and the machine can be read. -/
import Derived.Test.YtiflooopfpcelaaC5
namespace Go.Proofs.Ytiflooopfpcelaa
set_option maxRecDepth 20000
set_option linter.unusedSimpArgs false
set_option linter.unusedVariables false
open Go.ChangeShapes Go.WideShapes Go.ChangeAt Go.RowKit
/-- returns a row of moves of its own -/
def RetMvs (L : List Mv) (w : World) (e : Ending) (w' : World) : Prop :=
  ∃ v bs, e = .returned v ∧ Own w' v 2 L.length (mvCs L) bs ∧ (∀ b ∈ bs, w.heap.size ≤ b) ∧ Below w.heap.size w w'
theorem owns_snocM {w : World} {base : Nat} {t : TypeId} {v : Value} {N : List Mv} {x : Mv} (h : w.ownsRow base t 2 v (N.length + 1) (mvCs N ++ [.int .i64 x.t, .bool x.d])) : w.ownsRow base t 2 v (N ++ [x]).length (mvCs (N ++ [x])) := by
  rw [List.length_append, mvCs_append, mvCs_one]
  exact h
theorem mvsAt_next {p : Pr} {M : Ma} {k : Nat} {t : Th} {code : List Ins} (h : Well p M k t code) : mvsAt p M (k + 1) = mvsAt p M k ++ mvOf k (t, code) := by
  rw [mvsAt_succ, List.getD_eq_getElem?_getD, h.ht, List.getD_eq_getElem?_getD, h.hc]
  rfl
set_option maxHeartbeats 6400000 in
theorem l04Moves (v mv tv : Value) (p : Pr) (M : Ma) (w : World) (h : RdSS w v p.x) (hm : RdMa w mv tv M) (hok : machOk p M = true) :
    Calls Try.prog 73 #[.agg #[.int .i64 p.c, v], .agg #[mv, tv]] w (RetMvs (mvsAt p M M.ths.length) w) := by
  obtain ⟨b, o, c, bT, oT, d, A0, c0, rfl, rfl, rfl, hb, hbT, hc1, hc2, hc3, hc4, hc5, hc6, hl1, hl2, hl3, hl4, hEl⟩ := mach_open h hm hok
  obtain ⟨i, hi, hiz0, hiz1, hiz2⟩ := info_parts infoMv
  have hBq := ((Below.refl w.heap.size w).alloc (Nat.le_refl _) (.cells #[.int .i64 p.c, .slice (some ⟨b, o, none⟩) p.x.length c] 36)).alloc (by simp) (.cells #[.slice A0 M.mem.length c0, .slice (some ⟨bT, oT, none⟩) M.ths.length d] 41)
  have hB0 := hBq.alloc hBq.size (.cells #[] 54)
  have k0 := ((Bk.new w #[.int .i64 p.c, .slice (some ⟨b, o, none⟩) p.x.length c] 36).alloc (.cells #[.slice A0 M.mem.length c0, .slice (some ⟨bT, oT, none⟩) M.ths.length d] 41)).alloc (.cells #[] 54)
  have k1 := (Bk.new (w.alloc (.cells #[.int .i64 p.c, .slice (some ⟨b, o, none⟩) p.x.length c] 36)) #[.slice A0 M.mem.length c0, .slice (some ⟨bT, oT, none⟩) M.ths.length d] 41).alloc (.cells #[] 54)
  simp only [World.size_alloc] at k1
  have hO0 := World.ownsRow_lit (base := w.heap.size + 2) (e := 54) (size := 2) ((w.alloc (.cells #[.int .i64 p.c, .slice (some ⟨b, o, none⟩) p.x.length c] 36)).alloc (.cells #[.slice A0 M.mem.length c0, .slice (some ⟨bT, oT, none⟩) M.ths.length d] 41)) #[] 0 (by simp) (by simp [maxLen]) rfl
  simp only [World.size_alloc] at hO0
  clear hBq
  go_enter Try.func73, Try.ntmps73
  go_wp2_with fail
  go_loopw [5, 6] (fun l i' wr => ∃ (k : Nat) (L : List Mv), k ≤ M.ths.length ∧ i' = .int .i64 k ∧ L.length ≤ 2 * k ∧ Hid (L = mvsAt p M k) ∧ wr.ownsRow (w.heap.size + 2) 54 2 l L.length (mvCs L) ∧ Below w.heap.size w wr ∧ Bk wr w.heap.size #[.int .i64 p.c, .slice (some ⟨b, o, none⟩) p.x.length c] 36 ∧
    Bk wr (w.heap.size + 1) #[.slice A0 M.mem.length c0, .slice (some ⟨bT, oT, none⟩) M.ths.length d] 41) (fun _ i' _ => M.ths.length - (intOf i').toNat)
  case atStart => exact ⟨0, [], Nat.zero_le _, rfl, by simp, Lib.hid rfl, hO0, hB0, k0, k1⟩
  case round =>
    obtain ⟨k, L, hk, rfl, hLl, HL, hO, hB, kp, km⟩ := hrel
    clear hB0 k0 k1 hO0
    obtain ⟨z0, -⟩ := km.at_ 0 (x := .slice A0 M.mem.length c0) rfl
    obtain ⟨z1, -⟩ := km.at_ 1 (x := .slice (some ⟨bT, oT, none⟩) M.ths.length d) rfl
    obtain ⟨z2, -⟩ := kp.at_ 0 (x := .int .i64 p.c) rfl
    obtain ⟨z3, -⟩ := kp.at_ 1 (x := .slice (some ⟨b, o, none⟩) p.x.length c) rfl
    by_cases hlt : k < M.ths.length
    · obtain ⟨t, code, cv, av, fv, E⟩ := hEl wr hB k hlt
      have HW := Lib.hid E.well
      have hC1 := fun (W : World) (hW : Below w.heap.size w W) => l04Can _ _ _ p M k false t code W (h.below hW) (hm.below hW) HW.out
      have hC2 := fun (W : World) (hW : Below w.heap.size w W) => l04Can _ _ _ p M k true t code W (h.below hW) (hm.below hW) HW.out
      have HN := Lib.hid (mvsAt_next HW.out)
      clear E hEl
      cases hx1 : canEx t code <;> cases hx2 : canDr t
      · rw [show canT false t code = false from hx1] at hC1
        rw [show canT true t code = false from hx2] at hC2
        have HLn : Hid (L = mvsAt p M (k + 1)) := Lib.hid (by rw [HN.out, ← HL.out]; simp [mvOf, hx1, hx2])
        have HC1 := Lib.hid hC1
        have HC2 := Lib.hid hC2
        clear hC1 hC2 hx1 hx2
        go_wp2_with fail
        refine (HC1.out _ hB).mono ?_
        rintro e w1 ⟨rfl, hb1⟩
        have hO1 := ownsRow_below hO hb1
        have hB1 := hB.trans (hb1.mono hB.size)
        have kp1 := kp.below hb1 kp.lt
        have km1 := km.below hb1 km.lt
        clear hO hB kp km hb1 z0 z1 z2 z3
        have lk1 := km1.lt
        obtain ⟨y0, -⟩ := km1.at_ 0 (x := .slice A0 M.mem.length c0) rfl
        obtain ⟨y1, -⟩ := km1.at_ 1 (x := .slice (some ⟨bT, oT, none⟩) M.ths.length d) rfl
        obtain ⟨y2, -⟩ := kp1.at_ 0 (x := .int .i64 p.c) rfl
        obtain ⟨y3, -⟩ := kp1.at_ 1 (x := .slice (some ⟨b, o, none⟩) p.x.length c) rfl
        go_wp2_with fail
        refine (HC2.out _ hB1).mono ?_
        rintro e w3 ⟨rfl, hb3⟩
        have hO3 := ownsRow_below hO1 hb3
        have hB3 := hB1.trans (hb3.mono hB1.size)
        have kp3 := kp1.below hb3 kp1.lt
        have km3 := km1.below hb3 km1.lt
        clear y0 y1 y2 y3
        go_wp2_with fail
        exact ⟨⟨k + 1, _, by omega, by go_num, by first | omega | (simp; omega), HLn, hO3, hB3, kp3, km3⟩, by simp [intOf]; omega⟩
      · rw [show canT false t code = false from hx1] at hC1
        rw [show canT true t code = true from hx2] at hC2
        have HLn : Hid (L ++ [⟨k, true⟩] = mvsAt p M (k + 1)) := Lib.hid (by rw [HN.out, ← HL.out]; simp [mvOf, hx1, hx2])
        have HC1 := Lib.hid hC1
        have HC2 := Lib.hid hC2
        clear hC1 hC2 hx1 hx2
        go_wp2_with fail
        refine (HC1.out _ hB).mono ?_
        rintro e w1 ⟨rfl, hb1⟩
        have hO1 := ownsRow_below hO hb1
        have hB1 := hB.trans (hb1.mono hB.size)
        have kp1 := kp.below hb1 kp.lt
        have km1 := km.below hb1 km.lt
        clear hO hB kp km hb1 z0 z1 z2 z3
        have lk1 := km1.lt
        obtain ⟨y0, -⟩ := km1.at_ 0 (x := .slice A0 M.mem.length c0) rfl
        obtain ⟨y1, -⟩ := km1.at_ 1 (x := .slice (some ⟨bT, oT, none⟩) M.ths.length d) rfl
        obtain ⟨y2, -⟩ := kp1.at_ 0 (x := .int .i64 p.c) rfl
        obtain ⟨y3, -⟩ := kp1.at_ 1 (x := .slice (some ⟨b, o, none⟩) p.x.length c) rfl
        go_wp2_with fail
        refine (HC2.out _ hB1).mono ?_
        rintro e w3 ⟨rfl, hb3⟩
        have hO3 := ownsRow_below hO1 hb3
        have hB3 := hB1.trans (hb3.mono hB1.size)
        have kp3 := kp1.below hb3 kp1.lt
        have km3 := km1.below hb3 km1.lt
        clear y0 y1 y2 y3
        have hl3 : L.length ≤ 2 * k + 1 := by first | omega | (simp; omega)
        have lk3 := km3.lt
        go_wp2_with (at_builtin; refine wpList_append_own _ rfl _ _ 57 rfl (w.heap.size + 2) 54 i (.agg #[.int .i64 0, .bool false]) 2 16 Try.underlying57 hi hiz0 hiz1 hiz2 rfl (by decide) _ _ _ rfl (hO3.alloc _) ⟨w3.heap.size, 0, none⟩ 1 1 [.int .i64 k, .bool true] rfl rfl (new_cells _ _ _) (by simp [Value.oneCell']) (by unfold maxLen; omega) (by omega) (by have := hB3.size; simp; omega) ?_)
        intro v4 w4 hO4 hg4 _
        have hB4 := (hB3.alloc hB3.size _).grown hg4 (by have := hB3.size; simp; omega) (fun k hk => by have := (hO3.lt k hk).1; omega)
        have hO4 := owns_snocM (x := ⟨k, true⟩) hO4
        have kp4 := (kp3.alloc (.cells #[.int .i64 k, .bool true] 54)).grown hg4 (fun q hq => by have := (hO3.lt q hq).1; omega)
        have km4 := (km3.alloc (.cells #[.int .i64 k, .bool true] 54)).grown hg4 (fun q hq => by have := (hO3.lt q hq).1; omega)
        go_wp2_with fail
        exact ⟨⟨k + 1, _, by omega, by go_num, by first | omega | (simp; omega), HLn, hO4, hB4, kp4, km4⟩, by simp [intOf]; omega⟩
      · rw [show canT false t code = true from hx1] at hC1
        rw [show canT true t code = false from hx2] at hC2
        have HLn : Hid (L ++ [⟨k, false⟩] = mvsAt p M (k + 1)) := Lib.hid (by rw [HN.out, ← HL.out]; simp [mvOf, hx1, hx2])
        have HC1 := Lib.hid hC1
        have HC2 := Lib.hid hC2
        clear hC1 hC2 hx1 hx2
        go_wp2_with fail
        refine (HC1.out _ hB).mono ?_
        rintro e w1 ⟨rfl, hb1⟩
        have hO1 := ownsRow_below hO hb1
        have hB1 := hB.trans (hb1.mono hB.size)
        have kp1 := kp.below hb1 kp.lt
        have km1 := km.below hb1 km.lt
        clear hO hB kp km hb1 z0 z1 z2 z3
        have lk1 := km1.lt
        go_wp2_with (at_builtin; refine wpList_append_own _ rfl _ _ 57 rfl (w.heap.size + 2) 54 i (.agg #[.int .i64 0, .bool false]) 2 16 Try.underlying57 hi hiz0 hiz1 hiz2 rfl (by decide) _ _ _ rfl (hO1.alloc _) ⟨w1.heap.size, 0, none⟩ 1 1 [.int .i64 k, .bool false] rfl rfl (new_cells _ _ _) (by simp [Value.oneCell']) (by unfold maxLen; omega) (by omega) (by have := hB1.size; simp; omega) ?_)
        intro v2 w2 hO2 hg2 _
        have hB2 := (hB1.alloc hB1.size _).grown hg2 (by have := hB1.size; simp; omega) (fun k hk => by have := (hO1.lt k hk).1; omega)
        have hO2 := owns_snocM (x := ⟨k, false⟩) hO2
        have kp2 := (kp1.alloc (.cells #[.int .i64 k, .bool false] 54)).grown hg2 (fun q hq => by have := (hO1.lt q hq).1; omega)
        have km2 := (km1.alloc (.cells #[.int .i64 k, .bool false] 54)).grown hg2 (fun q hq => by have := (hO1.lt q hq).1; omega)
        obtain ⟨L2, hL2⟩ : ∃ L2, L ++ [Mv.mk k false] = L2 := ⟨_, rfl⟩
        have hLl2 : L2.length ≤ 2 * k + 1 := by rw [← hL2]; simp; omega
        rw [hL2] at hO2 HLn
        clear hL2
        obtain ⟨y0, -⟩ := km2.at_ 0 (x := .slice A0 M.mem.length c0) rfl
        obtain ⟨y1, -⟩ := km2.at_ 1 (x := .slice (some ⟨bT, oT, none⟩) M.ths.length d) rfl
        obtain ⟨y2, -⟩ := kp2.at_ 0 (x := .int .i64 p.c) rfl
        obtain ⟨y3, -⟩ := kp2.at_ 1 (x := .slice (some ⟨b, o, none⟩) p.x.length c) rfl
        go_wp2_with fail
        refine (HC2.out _ hB2).mono ?_
        rintro e w3 ⟨rfl, hb3⟩
        have hO3 := ownsRow_below hO2 hb3
        have hB3 := hB2.trans (hb3.mono hB2.size)
        have kp3 := kp2.below hb3 kp2.lt
        have km3 := km2.below hb3 km2.lt
        clear y0 y1 y2 y3
        go_wp2_with fail
        exact ⟨⟨k + 1, _, by omega, by go_num, by first | omega | (simp; omega), HLn, hO3, hB3, kp3, km3⟩, by simp [intOf]; omega⟩
      · rw [show canT false t code = true from hx1] at hC1
        rw [show canT true t code = true from hx2] at hC2
        have HLn : Hid (L ++ [⟨k, false⟩] ++ [⟨k, true⟩] = mvsAt p M (k + 1)) := Lib.hid (by rw [HN.out, ← HL.out]; simp [mvOf, hx1, hx2])
        have HC1 := Lib.hid hC1
        have HC2 := Lib.hid hC2
        clear hC1 hC2 hx1 hx2
        go_wp2_with fail
        refine (HC1.out _ hB).mono ?_
        rintro e w1 ⟨rfl, hb1⟩
        have hO1 := ownsRow_below hO hb1
        have hB1 := hB.trans (hb1.mono hB.size)
        have kp1 := kp.below hb1 kp.lt
        have km1 := km.below hb1 km.lt
        clear hO hB kp km hb1 z0 z1 z2 z3
        have lk1 := km1.lt
        go_wp2_with (at_builtin; refine wpList_append_own _ rfl _ _ 57 rfl (w.heap.size + 2) 54 i (.agg #[.int .i64 0, .bool false]) 2 16 Try.underlying57 hi hiz0 hiz1 hiz2 rfl (by decide) _ _ _ rfl (hO1.alloc _) ⟨w1.heap.size, 0, none⟩ 1 1 [.int .i64 k, .bool false] rfl rfl (new_cells _ _ _) (by simp [Value.oneCell']) (by unfold maxLen; omega) (by omega) (by have := hB1.size; simp; omega) ?_)
        intro v2 w2 hO2 hg2 _
        have hB2 := (hB1.alloc hB1.size _).grown hg2 (by have := hB1.size; simp; omega) (fun k hk => by have := (hO1.lt k hk).1; omega)
        have hO2 := owns_snocM (x := ⟨k, false⟩) hO2
        have kp2 := (kp1.alloc (.cells #[.int .i64 k, .bool false] 54)).grown hg2 (fun q hq => by have := (hO1.lt q hq).1; omega)
        have km2 := (km1.alloc (.cells #[.int .i64 k, .bool false] 54)).grown hg2 (fun q hq => by have := (hO1.lt q hq).1; omega)
        obtain ⟨L2, hL2⟩ : ∃ L2, L ++ [Mv.mk k false] = L2 := ⟨_, rfl⟩
        have hLl2 : L2.length ≤ 2 * k + 1 := by rw [← hL2]; simp; omega
        rw [hL2] at hO2 HLn
        clear hL2
        obtain ⟨y0, -⟩ := km2.at_ 0 (x := .slice A0 M.mem.length c0) rfl
        obtain ⟨y1, -⟩ := km2.at_ 1 (x := .slice (some ⟨bT, oT, none⟩) M.ths.length d) rfl
        obtain ⟨y2, -⟩ := kp2.at_ 0 (x := .int .i64 p.c) rfl
        obtain ⟨y3, -⟩ := kp2.at_ 1 (x := .slice (some ⟨b, o, none⟩) p.x.length c) rfl
        go_wp2_with fail
        refine (HC2.out _ hB2).mono ?_
        rintro e w3 ⟨rfl, hb3⟩
        have hO3 := ownsRow_below hO2 hb3
        have hB3 := hB2.trans (hb3.mono hB2.size)
        have kp3 := kp2.below hb3 kp2.lt
        have km3 := km2.below hb3 km2.lt
        clear y0 y1 y2 y3
        have hl3 : L2.length ≤ 2 * k + 1 := by first | omega | (simp; omega)
        have lk3 := km3.lt
        go_wp2_with (at_builtin; refine wpList_append_own _ rfl _ _ 57 rfl (w.heap.size + 2) 54 i (.agg #[.int .i64 0, .bool false]) 2 16 Try.underlying57 hi hiz0 hiz1 hiz2 rfl (by decide) _ _ _ rfl (hO3.alloc _) ⟨w3.heap.size, 0, none⟩ 1 1 [.int .i64 k, .bool true] rfl rfl (new_cells _ _ _) (by simp [Value.oneCell']) (by unfold maxLen; omega) (by omega) (by have := hB3.size; simp; omega) ?_)
        intro v4 w4 hO4 hg4 _
        have hB4 := (hB3.alloc hB3.size _).grown hg4 (by have := hB3.size; simp; omega) (fun k hk => by have := (hO3.lt k hk).1; omega)
        have hO4 := owns_snocM (x := ⟨k, true⟩) hO4
        have kp4 := (kp3.alloc (.cells #[.int .i64 k, .bool true] 54)).grown hg4 (fun q hq => by have := (hO3.lt q hq).1; omega)
        have km4 := (km3.alloc (.cells #[.int .i64 k, .bool true] 54)).grown hg4 (fun q hq => by have := (hO3.lt q hq).1; omega)
        go_wp2_with fail
        exact ⟨⟨k + 1, _, by omega, by go_num, by first | omega | (simp; omega), HLn, hO4, hB4, kp4, km4⟩, by simp [intOf]; omega⟩
    · obtain rfl : k = M.ths.length := by omega
      go_wp2_with fail
      go_ret
      rw [HL.out] at hO
      obtain ⟨bs, h1, h2⟩ := Own.of_owns hO
      exact ⟨_, bs, rfl, h1, fun x hx => by have := h2 x hx; omega, hB⟩
set_option maxHeartbeats 6400000 in
theorem impl_Moves (v mv tv : Value) (p : Pr) (M : Ma) (w : World) (h : RdSS w v p.x) (hm : RdMa w mv tv M) :
    Calls Try.prog 28 #[.agg #[.int .i64 p.c, v], .agg #[mv, tv]] w (RetMvs (mvsF p M) w) := by
  cases hok : machOk p M
  · obtain ⟨A0, c0, B0, d0, rfl, rfl, -⟩ := hm.slices
    obtain ⟨vs, ⟨A, c, rfl, -, hnc, hc, hr⟩, hin⟩ := id h
    have hB0 := ((Below.refl w.heap.size w).alloc (Nat.le_refl _) (.cells #[.int .i64 p.c, .slice A p.x.length c] 36)).alloc (by simp) (.cells #[.slice A0 M.mem.length c0, .slice B0 M.ths.length d0] 41)
    have hC1 := impl_MachineOk _ _ _ p M _ (h.below hB0) (hm.below hB0)
    have HB0 := Lib.hid hB0
    rw [hok] at hC1
    have HC1 := Lib.hid hC1
    have HN : Hid (mvsF p M = []) := Lib.hid (by simp [mvsF, hok])
    clear hC1 hok hB0 hr hin
    go_enter Try.func28, Try.ntmps28
    go_wp2_with fail
    refine HC1.out.mono ?_
    rintro e w1 ⟨rfl, hb1⟩
    go_wp2_with fail
    go_ret
    exact ⟨_, [], rfl, by rw [HN.out]; exact Own.nil _ _, by simp, HB0.out.trans (hb1.mono HB0.out.size)⟩
  obtain ⟨b, o, c, bT, oT, d, A0, c0, rfl, rfl, rfl, hb, hbT, hc1, hc2, hc3, hc4, hc5, hc6, hl1, hl2, hl3, hl4, hEl⟩ := mach_open h hm hok
  obtain ⟨i, hi, hiz0, hiz1, hiz2⟩ := info_parts infoMv
  have hB0 := ((Below.refl w.heap.size w).alloc (Nat.le_refl _) (.cells #[.int .i64 p.c, .slice (some ⟨b, o, none⟩) p.x.length c] 36)).alloc (by simp) (.cells #[.slice A0 M.mem.length c0, .slice (some ⟨bT, oT, none⟩) M.ths.length d] 41)
  have k0 := (Bk.new w #[.int .i64 p.c, .slice (some ⟨b, o, none⟩) p.x.length c] 36).alloc (.cells #[.slice A0 M.mem.length c0, .slice (some ⟨bT, oT, none⟩) M.ths.length d] 41)
  have k1 := Bk.new (w.alloc (.cells #[.int .i64 p.c, .slice (some ⟨b, o, none⟩) p.x.length c] 36)) #[.slice A0 M.mem.length c0, .slice (some ⟨bT, oT, none⟩) M.ths.length d] 41
  simp only [World.size_alloc] at k1
  have hC1 := impl_MachineOk _ _ _ p M _ (h.below hB0) (hm.below hB0)
  rw [hok] at hC1
  have HC1 := Lib.hid hC1
  have HF : Hid (mvsF p M = mvsAt p M M.ths.length) := Lib.hid (by simp [mvsF, hok])
  have HB0 := Lib.hid hB0
  clear hC1 hok hB0
  go_enter Try.func28, Try.ntmps28
  go_wp2_with fail
  refine HC1.out.mono ?_
  rintro e w1 ⟨rfl, hb1⟩
  have hB0 := HB0.out.trans (hb1.mono HB0.out.size)
  have k0 := k0.below hb1 k0.lt
  have k1 := k1.below hb1 k1.lt
  have hO0 : w1.ownsRow (w.heap.size + 2) 54 2 (.slice none 0 0) 0 [] := World.ownsRow_nil _ _ _ _
  obtain ⟨z0, -⟩ := k1.at_ 1 (x := .slice (some ⟨bT, oT, none⟩) M.ths.length d) rfl
  clear hb1 HB0
  go_wp2_with fail
  clear z0
  go_loopw [5, 15] (fun l i' wr => ∃ (k : Nat) (L : List Mv), k ≤ M.ths.length ∧ i' = .int .i64 k ∧ L.length ≤ 2 * k ∧ Hid (L = mvsAt p M k) ∧ wr.ownsRow (w.heap.size + 2) 54 2 l L.length (mvCs L) ∧ Below w.heap.size w wr ∧ Bk wr w.heap.size #[.int .i64 p.c, .slice (some ⟨b, o, none⟩) p.x.length c] 36 ∧
    Bk wr (w.heap.size + 1) #[.slice A0 M.mem.length c0, .slice (some ⟨bT, oT, none⟩) M.ths.length d] 41) (fun _ i' _ => M.ths.length - (intOf i').toNat)
  case atStart => exact ⟨0, [], Nat.zero_le _, rfl, by simp, Lib.hid rfl, hO0, hB0, k0, k1⟩
  case round =>
    obtain ⟨k, L, hk, rfl, hLl, HL, hO, hB, kp, km⟩ := hrel
    clear hB0 k0 k1 hO0
    by_cases hlt : k < M.ths.length
    · obtain ⟨t, code, cv, av, fv, E⟩ := hEl wr hB k hlt
      obtain ⟨C, dc, rfl, -, hdc1, hdc2, -⟩ := id E.rc
      obtain ⟨Av, da, rfl, -, -, -, -⟩ := id E.ra
      obtain ⟨F, df, rfl, -, hdf1, hdf2, -⟩ := id E.rf
      have x1 := E.c1
      have x2 := E.c2
      have x3 := E.c3
      have HW := Lib.hid E.well
      have hklt' : (k : Int) < p.x.length := by omega
      have hbr : b < wr.heap.size := Nat.lt_of_lt_of_le hb hB.size
      have hA0 := (Below.refl wr.heap.size wr).alloc (Nat.le_refl _) (.cells #[.int .i64 t.pc, .slice Av t.v.length da, .slice F t.f.length df] 71)
      have hBw := hB.alloc hB.size (.cells #[.int .i64 t.pc, .slice Av t.v.length da, .slice F t.f.length df] 71)
      have kt := Bk.new wr #[.int .i64 t.pc, .slice Av t.v.length da, .slice F t.f.length df] 71
      have kpw := kp.alloc (.cells #[.int .i64 t.pc, .slice Av t.v.length da, .slice F t.f.length df] 71)
      have kmw := km.alloc (.cells #[.int .i64 t.pc, .slice Av t.v.length da, .slice F t.f.length df] 71)
      have hOw := ownsRow_below hO hA0
      have hrcw := E.rc.below hA0
      have x0 := (hA0.cell (p := ⟨b, o + k, none⟩) hbr).trans E.c0
      have hOlt := fun q hq => (hO.lt q hq).2
      obtain ⟨WW, hWW⟩ : ∃ WW, WW = wr.alloc (.cells #[.int .i64 t.pc, .slice Av t.v.length da, .slice F t.f.length df] 71) := ⟨_, rfl⟩
      have lbw : b < WW.heap.size := by rw [hWW]; simp; omega
      rw [← hWW] at hBw kt kpw kmw x0 hOw hrcw
      have HWW := Lib.hid hWW
      obtain ⟨g, hgs⟩ : ∃ g, wr.heap.size = g := ⟨_, rfl⟩
      have HG := Lib.hid hgs
      rw [hgs] at kt hOlt
      have HB := Lib.hid hBw
      have HOw := Lib.hid hOw
      have HOlt := Lib.hid hOlt
      have HN := Lib.hid (mvsAt_next HW.out)
      obtain ⟨t0, -⟩ := kt.at_ 0 (x := .int .i64 t.pc) rfl
      obtain ⟨t1, -⟩ := kt.at_ 1 (x := .slice Av t.v.length da) rfl
      obtain ⟨t2, -⟩ := kt.at_ 2 (x := .slice F t.f.length df) rfl
      obtain ⟨y1, -⟩ := kpw.at_ 1 (x := .slice (some ⟨b, o, none⟩) p.x.length c) rfl
      have p0 := Past.cell kt.lt t0
      have p1 := Past.cell kt.lt t1
      have p2 := Past.cell kt.lt t2
      have p3 := Past.cell kpw.lt y1
      have p4 := Past.cell lbw x0
      have hU := fun p : Past WW => impl_canExecute t (.slice Av t.v.length da) (.slice F t.f.length df) (.slice C code.length dc) code p.v (hrcw.below p.hb) ⟨_, _, rfl⟩ (thOk_parts HW.out.th).1
      have hV := fun W : World => impl_canDrain t (.slice Av t.v.length da) (.slice F t.f.length df) W ⟨_, _, rfl⟩
      clear t0 t1 t2 y1 hWW hgs hB hBw E hEl hO hOw hOlt hA0
      cases hx1 : canEx t code <;> cases hx2 : canDr t
      · rw [hx1] at hU
        rw [hx2] at hV
        have HLn : Hid (L = mvsAt p M (k + 1)) := Lib.hid (by rw [HN.out, ← HL.out]; simp [mvOf, hx1, hx2])
        have HU := Lib.hid hU
        have HV := Lib.hid hV
        clear hU hV hx1 hx2
        go_wp2_with fail
        rw [← HWW.out, HG.out]
        refine wp_region_past (by kernel_rfl) (by kernel_rfl) ?_
        repeat (go_big_quiet_step (first | (go_at_call 74; exact Calls.past_of (HU.out _))))
        refine wpQuiet_nil ?_
        intro _ hw'
        obtain ⟨p, rfl⟩ := hw'
        have hO1 := ownsRow_below HOw.out p.hb
        have hB1 := HB.out.trans (p.hb.mono HB.out.size)
        have kp1 := kpw.below p.hb kpw.lt
        have km1 := kmw.below p.hb kmw.lt
        have kt1 := kt.below p.hb kt.lt
        generalize p.v = w1 at hO1 hB1 kp1 km1 kt1 ⊢
        clear p0 p1 p2 p3 p4 kt kpw kmw x0 x1 x2 x3 HOw HB hrcw HU HWW HG kp km lbw
        have lk1 := km1.lt
        obtain ⟨y0, -⟩ := kt1.at_ 0 (x := .int .i64 t.pc) rfl
        obtain ⟨y1, -⟩ := kt1.at_ 1 (x := .slice Av t.v.length da) rfl
        obtain ⟨y2, -⟩ := kt1.at_ 2 (x := .slice F t.f.length df) rfl
        go_wp2_with fail
        refine (HV.out _).mono ?_
        rintro e w3 ⟨rfl, hb3⟩
        have hO3 := ownsRow_below hO1 hb3
        have hB3 := hB1.trans (hb3.mono hB1.size)
        have kp3 := kp1.below hb3 kp1.lt
        have km3 := km1.below hb3 km1.lt
        clear y0 y1 y2
        go_wp2_with fail
        exact ⟨⟨k + 1, _, by omega, by go_num, by first | omega | (simp; omega), HLn, hO3, hB3, kp3, km3⟩, by simp [intOf]; omega⟩
      · rw [hx1] at hU
        rw [hx2] at hV
        have HLn : Hid (L ++ [⟨k, true⟩] = mvsAt p M (k + 1)) := Lib.hid (by rw [HN.out, ← HL.out]; simp [mvOf, hx1, hx2])
        have HU := Lib.hid hU
        have HV := Lib.hid hV
        clear hU hV hx1 hx2
        go_wp2_with fail
        rw [← HWW.out, HG.out]
        refine wp_region_past (by kernel_rfl) (by kernel_rfl) ?_
        repeat (go_big_quiet_step (first | (go_at_call 74; exact Calls.past_of (HU.out _))))
        refine wpQuiet_nil ?_
        intro _ hw'
        obtain ⟨p, rfl⟩ := hw'
        have hO1 := ownsRow_below HOw.out p.hb
        have hB1 := HB.out.trans (p.hb.mono HB.out.size)
        have kp1 := kpw.below p.hb kpw.lt
        have km1 := kmw.below p.hb kmw.lt
        have kt1 := kt.below p.hb kt.lt
        generalize p.v = w1 at hO1 hB1 kp1 km1 kt1 ⊢
        clear p0 p1 p2 p3 p4 kt kpw kmw x0 x1 x2 x3 HOw HB hrcw HU HWW HG kp km lbw
        have lk1 := km1.lt
        obtain ⟨y0, -⟩ := kt1.at_ 0 (x := .int .i64 t.pc) rfl
        obtain ⟨y1, -⟩ := kt1.at_ 1 (x := .slice Av t.v.length da) rfl
        obtain ⟨y2, -⟩ := kt1.at_ 2 (x := .slice F t.f.length df) rfl
        go_wp2_with fail
        refine (HV.out _).mono ?_
        rintro e w3 ⟨rfl, hb3⟩
        have hO3 := ownsRow_below hO1 hb3
        have hB3 := hB1.trans (hb3.mono hB1.size)
        have kp3 := kp1.below hb3 kp1.lt
        have km3 := km1.below hb3 km1.lt
        clear y0 y1 y2
        have hl3 : L.length ≤ 2 * k + 1 := by first | omega | (simp; omega)
        have lk3 := km3.lt
        go_wp2_with (at_builtin; refine wpList_append_own _ rfl _ _ 57 rfl (w.heap.size + 2) 54 i (.agg #[.int .i64 0, .bool false]) 2 16 Try.underlying57 hi hiz0 hiz1 hiz2 rfl (by decide) _ _ _ rfl (hO3.alloc _) ⟨w3.heap.size, 0, none⟩ 1 1 [.int .i64 k, .bool true] rfl rfl (new_cells _ _ _) (by simp [Value.oneCell']) (by unfold maxLen; omega) (by omega) (by have := hB3.size; simp; omega) ?_)
        intro v4 w4 hO4 hg4 _
        have hB4 := (hB3.alloc hB3.size _).grown hg4 (by have := hB3.size; simp; omega) (fun k hk => by have := (hO3.lt k hk).1; omega)
        have hO4 := owns_snocM (x := ⟨k, true⟩) hO4
        have kp4 := (kp3.alloc (.cells #[.int .i64 k, .bool true] 54)).grown hg4 (fun q hq => by have := (hO3.lt q hq).1; omega)
        have km4 := (km3.alloc (.cells #[.int .i64 k, .bool true] 54)).grown hg4 (fun q hq => by have := (hO3.lt q hq).1; omega)
        go_wp2_with fail
        exact ⟨⟨k + 1, _, by omega, by go_num, by first | omega | (simp; omega), HLn, hO4, hB4, kp4, km4⟩, by simp [intOf]; omega⟩
      · rw [hx1] at hU
        rw [hx2] at hV
        have HLn : Hid (L ++ [⟨k, false⟩] = mvsAt p M (k + 1)) := Lib.hid (by rw [HN.out, ← HL.out]; simp [mvOf, hx1, hx2])
        have HU := Lib.hid hU
        have HV := Lib.hid hV
        clear hU hV hx1 hx2
        go_wp2_with fail
        rw [← HWW.out, HG.out]
        refine wp_region_past (by kernel_rfl) (by kernel_rfl) ?_
        repeat (go_big_quiet_step (first | (go_at_call 74; exact Calls.past_of (HU.out _))))
        refine wpQuiet_nil ?_
        intro _ hw'
        obtain ⟨p, rfl⟩ := hw'
        have hO1 := ownsRow_below HOw.out p.hb
        have hB1 := HB.out.trans (p.hb.mono HB.out.size)
        have kp1 := kpw.below p.hb kpw.lt
        have km1 := kmw.below p.hb kmw.lt
        have kt1 := kt.below p.hb kt.lt
        generalize p.v = w1 at hO1 hB1 kp1 km1 kt1 ⊢
        clear p0 p1 p2 p3 p4 kt kpw kmw x0 x1 x2 x3 HOw HB hrcw HU HWW HG kp km lbw
        have lk1 := km1.lt
        go_wp2_with (at_builtin; refine wpList_append_own _ rfl _ _ 57 rfl (w.heap.size + 2) 54 i (.agg #[.int .i64 0, .bool false]) 2 16 Try.underlying57 hi hiz0 hiz1 hiz2 rfl (by decide) _ _ _ rfl (hO1.alloc _) ⟨w1.heap.size, 0, none⟩ 1 1 [.int .i64 k, .bool false] rfl rfl (new_cells _ _ _) (by simp [Value.oneCell']) (by unfold maxLen; omega) (by omega) (by have := hB1.size; simp; omega) ?_)
        intro v2 w2 hO2 hg2 _
        have hB2 := (hB1.alloc hB1.size _).grown hg2 (by have := hB1.size; simp; omega) (fun k hk => by have := (hO1.lt k hk).1; omega)
        have hO2 := owns_snocM (x := ⟨k, false⟩) hO2
        have kp2 := (kp1.alloc (.cells #[.int .i64 k, .bool false] 54)).grown hg2 (fun q hq => by have := (hO1.lt q hq).1; have := HOlt.out q hq; omega)
        have km2 := (km1.alloc (.cells #[.int .i64 k, .bool false] 54)).grown hg2 (fun q hq => by have := (hO1.lt q hq).1; have := HOlt.out q hq; omega)
        have kt2 := (kt1.alloc (.cells #[.int .i64 k, .bool false] 54)).grown hg2 (fun q hq => by have := (hO1.lt q hq).1; have := HOlt.out q hq; omega)
        obtain ⟨L2, hL2⟩ : ∃ L2, L ++ [Mv.mk k false] = L2 := ⟨_, rfl⟩
        have hLl2 : L2.length ≤ 2 * k + 1 := by rw [← hL2]; simp; omega
        rw [hL2] at hO2 HLn
        clear hL2
        obtain ⟨y0, -⟩ := kt2.at_ 0 (x := .int .i64 t.pc) rfl
        obtain ⟨y1, -⟩ := kt2.at_ 1 (x := .slice Av t.v.length da) rfl
        obtain ⟨y2, -⟩ := kt2.at_ 2 (x := .slice F t.f.length df) rfl
        go_wp2_with fail
        refine (HV.out _).mono ?_
        rintro e w3 ⟨rfl, hb3⟩
        have hO3 := ownsRow_below hO2 hb3
        have hB3 := hB2.trans (hb3.mono hB2.size)
        have kp3 := kp2.below hb3 kp2.lt
        have km3 := km2.below hb3 km2.lt
        clear y0 y1 y2
        go_wp2_with fail
        exact ⟨⟨k + 1, _, by omega, by go_num, by first | omega | (simp; omega), HLn, hO3, hB3, kp3, km3⟩, by simp [intOf]; omega⟩
      · rw [hx1] at hU
        rw [hx2] at hV
        have HLn : Hid (L ++ [⟨k, false⟩] ++ [⟨k, true⟩] = mvsAt p M (k + 1)) := Lib.hid (by rw [HN.out, ← HL.out]; simp [mvOf, hx1, hx2])
        have HU := Lib.hid hU
        have HV := Lib.hid hV
        clear hU hV hx1 hx2
        go_wp2_with fail
        rw [← HWW.out, HG.out]
        refine wp_region_past (by kernel_rfl) (by kernel_rfl) ?_
        repeat (go_big_quiet_step (first | (go_at_call 74; exact Calls.past_of (HU.out _))))
        refine wpQuiet_nil ?_
        intro _ hw'
        obtain ⟨p, rfl⟩ := hw'
        have hO1 := ownsRow_below HOw.out p.hb
        have hB1 := HB.out.trans (p.hb.mono HB.out.size)
        have kp1 := kpw.below p.hb kpw.lt
        have km1 := kmw.below p.hb kmw.lt
        have kt1 := kt.below p.hb kt.lt
        generalize p.v = w1 at hO1 hB1 kp1 km1 kt1 ⊢
        clear p0 p1 p2 p3 p4 kt kpw kmw x0 x1 x2 x3 HOw HB hrcw HU HWW HG kp km lbw
        have lk1 := km1.lt
        go_wp2_with (at_builtin; refine wpList_append_own _ rfl _ _ 57 rfl (w.heap.size + 2) 54 i (.agg #[.int .i64 0, .bool false]) 2 16 Try.underlying57 hi hiz0 hiz1 hiz2 rfl (by decide) _ _ _ rfl (hO1.alloc _) ⟨w1.heap.size, 0, none⟩ 1 1 [.int .i64 k, .bool false] rfl rfl (new_cells _ _ _) (by simp [Value.oneCell']) (by unfold maxLen; omega) (by omega) (by have := hB1.size; simp; omega) ?_)
        intro v2 w2 hO2 hg2 _
        have hB2 := (hB1.alloc hB1.size _).grown hg2 (by have := hB1.size; simp; omega) (fun k hk => by have := (hO1.lt k hk).1; omega)
        have hO2 := owns_snocM (x := ⟨k, false⟩) hO2
        have kp2 := (kp1.alloc (.cells #[.int .i64 k, .bool false] 54)).grown hg2 (fun q hq => by have := (hO1.lt q hq).1; have := HOlt.out q hq; omega)
        have km2 := (km1.alloc (.cells #[.int .i64 k, .bool false] 54)).grown hg2 (fun q hq => by have := (hO1.lt q hq).1; have := HOlt.out q hq; omega)
        have kt2 := (kt1.alloc (.cells #[.int .i64 k, .bool false] 54)).grown hg2 (fun q hq => by have := (hO1.lt q hq).1; have := HOlt.out q hq; omega)
        obtain ⟨L2, hL2⟩ : ∃ L2, L ++ [Mv.mk k false] = L2 := ⟨_, rfl⟩
        have hLl2 : L2.length ≤ 2 * k + 1 := by rw [← hL2]; simp; omega
        rw [hL2] at hO2 HLn
        clear hL2
        obtain ⟨y0, -⟩ := kt2.at_ 0 (x := .int .i64 t.pc) rfl
        obtain ⟨y1, -⟩ := kt2.at_ 1 (x := .slice Av t.v.length da) rfl
        obtain ⟨y2, -⟩ := kt2.at_ 2 (x := .slice F t.f.length df) rfl
        go_wp2_with fail
        refine (HV.out _).mono ?_
        rintro e w3 ⟨rfl, hb3⟩
        have hO3 := ownsRow_below hO2 hb3
        have hB3 := hB2.trans (hb3.mono hB2.size)
        have kp3 := kp2.below hb3 kp2.lt
        have km3 := km2.below hb3 km2.lt
        clear y0 y1 y2
        have hl3 : L2.length ≤ 2 * k + 1 := by first | omega | (simp; omega)
        have lk3 := km3.lt
        go_wp2_with (at_builtin; refine wpList_append_own _ rfl _ _ 57 rfl (w.heap.size + 2) 54 i (.agg #[.int .i64 0, .bool false]) 2 16 Try.underlying57 hi hiz0 hiz1 hiz2 rfl (by decide) _ _ _ rfl (hO3.alloc _) ⟨w3.heap.size, 0, none⟩ 1 1 [.int .i64 k, .bool true] rfl rfl (new_cells _ _ _) (by simp [Value.oneCell']) (by unfold maxLen; omega) (by omega) (by have := hB3.size; simp; omega) ?_)
        intro v4 w4 hO4 hg4 _
        have hB4 := (hB3.alloc hB3.size _).grown hg4 (by have := hB3.size; simp; omega) (fun k hk => by have := (hO3.lt k hk).1; omega)
        have hO4 := owns_snocM (x := ⟨k, true⟩) hO4
        have kp4 := (kp3.alloc (.cells #[.int .i64 k, .bool true] 54)).grown hg4 (fun q hq => by have := (hO3.lt q hq).1; omega)
        have km4 := (km3.alloc (.cells #[.int .i64 k, .bool true] 54)).grown hg4 (fun q hq => by have := (hO3.lt q hq).1; omega)
        go_wp2_with fail
        exact ⟨⟨k + 1, _, by omega, by go_num, by first | omega | (simp; omega), HLn, hO4, hB4, kp4, km4⟩, by simp [intOf]; omega⟩
    · obtain rfl : k = M.ths.length := by omega
      go_wp2_with fail
      go_ret
      rw [HL.out, ← HF.out] at hO
      obtain ⟨bs, h1, h2⟩ := Own.of_owns hO
      exact ⟨_, bs, rfl, h1, fun x hx => by have := h2 x hx; omega, hB⟩
end Go.Proofs.Ytiflooopfpcelaa
