import Derived.Test.YtiflooopfpcelaaV4
import Derived.Test.YtiflooopfpcelaaM5
import Derived.Test.YtiflooopfpcelaaI2
import Derived.Test.YtiflooopfpcelaaB2
import Derived.Test.YtiflooopfpcelaaC13
import Derived.Test.YtiflooopfpcelaaHeads
import Derived.Test.YtiflooopfpcelaaM2
import Derived.Test.YtiflooopfpcelaaB4
import Derived.Test.YtiflooopfpcelaaB6
/- Contract of impl.copyMachine. Condition: the machine can be read; lengths that a law bounds. -/
namespace Go.Proofs.Ytiflooopfpcelaa
set_option maxRecDepth 20000
set_option linter.unusedSimpArgs false
set_option linter.unusedVariables false
open Go.ChangeShapes Go.WideShapes Go.ChangeAt Go.RowKit
/-- returns a row of the cells cs -/
def RetRow3 (cs : List Value) (n : Nat) (w : World) (e : Ending) (w' : World) : Prop :=
  ∃ v, e = .returned v ∧ w'.ownsRow w.heap.size 71 3 v n cs ∧ Below w.heap.size w w'
theorem set_mid {α : Type} {xs ys : List α} {k : Nat} (x : α) (hl : xs.length = k) (hk : k < ys.length) : (xs ++ ys.drop k).set k x = (xs ++ [x]) ++ ys.drop (k + 1) := by
  rw [List.set_append, if_neg (by omega), hl, Nat.sub_self, List.drop_eq_getElem_cons hk, List.set_cons_zero, List.append_assoc]
  rfl
theorem owns_some {w : World} {base : Nat} {e : TypeId} {size n c m : Nat} {A : Option Addr} {xs : List Value} (h : w.ownsRow base e size (.slice A n c) m xs) (hn : 0 < n) : ∃ g, A = some ⟨g, 0, none⟩ ∧ g < w.heap.size ∧ base ≤ g := by
  obtain ⟨hl, ⟨h0, rfl⟩ | ⟨g, cap, cur, h0, h1, hg, h2⟩⟩ := h
  · injection h0 with _ h0 _
    omega
  · injection h0 with h0 _ _
    exact ⟨g, h0, (Array.getElem?_eq_some_iff.1 hg).1, h1⟩
theorem drop_at {α : Type} {xs ys : List α} {k : Nat} {x : α} (hl : xs.length = k) (hy : ys[k]? = some x) : (xs ++ ys.drop k)[k]? = some x := by
  rw [List.getElem?_append_right (by omega), hl, Nat.sub_self, List.getElem?_drop]
  simpa using hy
set_option maxHeartbeats 800000 in
theorem cloneThs (v : Value) (cs : List Value) (n : Nat) (w : World) (h : Rd w v 3 n cs) (hone : ∀ u ∈ cs, u.oneCell' = true) (hsz : n ≤ 16777216) :
    Calls Try.prog 124 #[v] w (RetRow3 cs n w) := by
  obtain ⟨A, c, rfl, hln, hnc, hc, hr⟩ := id h
  unfold maxLen at hc
  obtain ⟨i, hi, hiz0, hiz1, hiz2⟩ := info_parts infoTh
  rcases A with _ | ad
  · have h0 : n = 0 := by
      by_cases hp : 0 < n
      · obtain ⟨b, o, he, _⟩ := hr hp
        cases he
      · omega
    subst h0
    have h0 : cs = [] := List.eq_nil_of_length_eq_zero (by omega)
    subst h0
    have e0 := fun w => Lib.run_eql_slice_nil (P := Try.prog) w 39 71 none 0 c 0 0 Try.underlying39
    go_enter Try.func124, Try.ntmps124
    go_wp2_with fail
    go_ret
    exact ⟨_, rfl, World.ownsRow_nil _ _ _ _, Below.refl _ _⟩
  · have HC : Hid (∀ W : World, Below w.heap.size w W → ∀ j u, cs[j]? = some u → W.cell? (ad.add j) = some u) := by
      intro W hW j u hu
      have hj : j < n * 3 := by have := (List.getElem?_eq_some_iff.1 hu).1; omega
      obtain ⟨A', c', he, -, -, -, hr'⟩ := h.a
      injection he with e1
      subst e1
      obtain ⟨ad', he', hb, hcell⟩ := hr' (by omega)
      injection he' with e2
      subst e2
      exact (hW.cell (p := ad.add j) (by rw [add_block]; exact hb)).trans (hcell j u hu)
    have hO := World.ownsRow_lit (base := w.heap.size) (e := 71) (size := 3) w #[] 0 (Nat.le_refl _) (by simp [maxLen]) rfl
    have hB := (Below.refl w.heap.size w).alloc (Nat.le_refl _) (.cells #[] 71)
    have HO := Lib.hid hone
    clear hr hone
    have e0 := fun w => Lib.run_eql_slice_nil (P := Try.prog) w 39 71 (some ad) n c 0 0 Try.underlying39
    go_enter Try.func124, Try.ntmps124
    go_wp2_with (at_builtin; refine wpList_append_own _ rfl _ _ 39 rfl w.heap.size 71 i (.agg #[.int .i64 0, .slice none 0 0, .slice none 0 0]) 3 56 Try.underlying39 hi hiz0 hiz1 hiz2 rfl (by decide) _ _ _ rfl hO ad n c cs rfl hln (HC.out _ hB) HO.out (by unfold maxLen; omega) (by omega) (by simp) ?_)
    intro v' w1 hown' hgrow _
    have hB' := hB.grown hgrow (by simp) (fun k hk => (hO.lt k hk).1)
    go_wp2_with fail
    go_ret
    exact ⟨_, rfl, by simpa using hown', hB'⟩
theorem ths_one {w : World} {ths : List Th} {vs : List (Value × Value)} (hl : vs.length = ths.length) (h : ∀ (k : Nat) t p, ths[k]? = some t → vs[k]? = some p → Rd w p.1 1 t.v.length (ints t.v) ∧ Rd w p.2 2 t.f.length (flc2 t.f)) : ∀ u ∈ thCs ths vs, u.oneCell' = true := by
  induction ths generalizing vs with
  | nil => simp [thCs]
  | cons t ts ih =>
    cases vs with
    | nil => simp [thCs]
    | cons p ps =>
      intro u hu
      rw [thCs] at hu
      rcases List.mem_append.1 hu with hu | hu
      · obtain ⟨⟨A, c, h1, -⟩, ⟨B, d, h2, -⟩⟩ := h 0 t p rfl rfl
        simp only [thC, List.mem_cons, List.not_mem_nil, or_false] at hu
        rcases hu with rfl | rfl | rfl
        · rfl
        · rw [h1]; rfl
        · rw [h2]; rfl
      · exact ih (by simpa using hl) (fun k t p ht hp => h (k + 1) t p (by simpa using ht) (by simpa using hp)) u hu
set_option maxHeartbeats 3200000 in
theorem copyMachine (mv tv : Value) (M : Ma) (w : World) (h : RdMa w mv tv M) (hsz : totMa M ≤ 16777215) :
    Calls Try.prog 85 #[.agg #[mv, tv]] w (RetMa M w) := by
  obtain ⟨A0, c0, B0, d0, rfl, rfl, -, hBd, hcc, hdc⟩ := h.slices
  have hmem := h.mem
  obtain ⟨vs, hvl, hrd, hin⟩ := h.ths
  have hsm : M.mem.length ≤ 16777215 ∧ totTS M.ths ≤ 16777215 := by unfold totMa at hsz; omega
  have hsn : M.ths.length ≤ 16777215 := by have := hsm.2; unfold totTS at this; omega
  have hB := ((Below.refl w.heap.size w).alloc (Nat.le_refl _) (.cells #[.slice A0 M.mem.length c0, .slice B0 M.ths.length d0] 41)).alloc (by simp) (.cells #[.slice none 0 0, .slice none 0 0] 41)
  have k0 := (Bk.new w #[.slice A0 M.mem.length c0, .slice B0 M.ths.length d0] 41).alloc (.cells #[.slice none 0 0, .slice none 0 0] 41)
  have k1 := Bk.new (w.alloc (.cells #[.slice A0 M.mem.length c0, .slice B0 M.ths.length d0] 41)) #[.slice none 0 0, .slice none 0 0] 41
  simp only [World.size_alloc] at k1
  have hone := ths_one hvl hin
  have HB := Lib.hid hB
  have HIN := Lib.hid hin
  go_enter Try.func85, Try.ntmps85
  go_wp2_with fail
  refine (cloneThs _ _ _ _ (hrd.below hB) hone (by omega)).mono ?_
  rintro e w1 ⟨v1, rfl, hO1, hb1⟩
  obtain ⟨Ar, cr, rfl⟩ : ∃ A c, v1 = .slice A M.ths.length c := by
    rcases hO1.2 with ⟨rfl, h0⟩ | ⟨b, cap, cur, rfl, _⟩
    · exact ⟨none, 0, by rw [h0]⟩
    · exact ⟨_, _, rfl⟩
  have hB1 := HB.out.trans (hb1.mono HB.out.size)
  have K0 := k0.below hb1 k0.lt
  have K1 := k1.below hb1 k1.lt
  have K1lt : w.heap.size + 1 < w1.heap.size := K1.lt
  have hO1' : w1.ownsRow (w.heap.size + 2) 71 3 (.slice Ar M.ths.length cr) M.ths.length (thCs M.ths vs) := by
    simpa using hO1
  clear hO1 hb1 k0 k1 hB HB hone hrd hin
  go_wp2_with fail
  go_loopw [11] (fun i wr => ∃ (k : Nat) (vn : List (Value × Value)) (qs : List (List Nat × List Nat)), k ≤ M.ths.length ∧ i = .int .i64 k ∧ Hid (vn.length = k ∧ qs.length = k) ∧
    wr.ownsRow (w.heap.size + 2) 71 3 (.slice Ar M.ths.length cr) M.ths.length (thCs M.ths (vn ++ vs.drop k)) ∧ OwnR wr (thRows (M.ths.take k) vn qs) ∧ Hid (∀ b ∈ blks (thRows (M.ths.take k) vn qs), w1.heap.size ≤ b) ∧
    Below w.heap.size w wr ∧ Hid (w1.heap.size ≤ wr.heap.size) ∧ Bk wr w.heap.size #[.slice A0 M.mem.length c0, .slice B0 M.ths.length d0] 41 ∧ Bk wr (w.heap.size + 1) #[.slice none 0 0, .slice none 0 0] 41) (fun i _ => M.ths.length - (intOf i).toNat)
  case atStart => exact ⟨0, [], [], Nat.zero_le _, rfl, Lib.hid ⟨rfl, rfl⟩, by simpa using hO1', by simpa [thRows] using OwnR.nil w1, Lib.hid (by simp [thRows, blks]), hB1, Lib.hid (Nat.le_refl _), K0, K1⟩
  case round =>
    obtain ⟨k, vn, qs, hk, rfl, HL, hO, hI, HBS, hB, HSZ, q0, q1⟩ := hrel
    clear hB1 K0 K1
    by_cases hlt : k < M.ths.length
    · obtain ⟨g, rfl, hgl, hgb⟩ := owns_some hO1' (by omega)
      have ht : M.ths[k]? = some M.ths[k] := List.getElem?_eq_getElem hlt
      generalize M.ths[k] = t at ht
      have hvk : vs[k]? = some vs[k] := List.getElem?_eq_getElem (by omega)
      generalize vs[k] = pv at hvk
      obtain ⟨ra, rb⟩ := HIN.out k t pv ht hvk
      obtain ⟨a, f⟩ := pv
      simp only at ra rb
      obtain ⟨Av, cv, rfl, -, -, -, -⟩ := id ra
      obtain ⟨Af, cf, rfl, -, -, -, -⟩ := id rb
      have htt := totTS_mem ht
      have hvl2 : t.v.length ≤ 16777215 ∧ t.f.length ≤ 16777215 := by unfold totTh at htt; omega
      have hdk := drop_at HL.out.1 hvk
      have e0 := thCs_at ht hdk 0 (by omega)
      have e1 := thCs_at ht hdk 1 (by omega)
      have e2 := thCs_at ht hdk 2 (by omega)
      have hc0 := (hO.cellAt (k * 3 + 0) (by omega)).trans e0
      have hc1 := (hO.cellAt (k * 3 + 1) (by omega)).trans e1
      have hc2 := (hO.cellAt (k * 3 + 2) (by omega)).trans e2
      simp only [thC, Nat.add_zero, List.getElem?_cons_zero, List.getElem?_cons_succ] at hc0 hc1 hc2
      have hA := (Below.refl wr.heap.size wr).alloc (Nat.le_refl _) (.cells #[.int .i64 t.pc, .slice Av t.v.length cv, .slice Af t.f.length cf] 71)
      have kt := Bk.new wr #[.int .i64 t.pc, .slice Av t.v.length cv, .slice Af t.f.length cf] 71
      have hBa := hB.alloc hB.size (.cells #[.int .i64 t.pc, .slice Av t.v.length cv, .slice Af t.f.length cf] 71)
      have hOa := ownsRow_below hO hA
      have hIa := hI.below hA
      have q0a := q0.alloc (.cells #[.int .i64 t.pc, .slice Av t.v.length cv, .slice Af t.f.length cf] 71)
      have q1a := q1.alloc (.cells #[.int .i64 t.pc, .slice Av t.v.length cv, .slice Af t.f.length cf] 71)
      have HT := Lib.hid ht
      have HDK := Lib.hid hdk
      have hilt := hI.lt
      have RB := Lib.hid rb
      clear hdk hvk e0 e1 e2 hO hI hB q0 q1 rb
      go_wp2_with fail
      refine (clone _ t.v _ (ra.below hBa) (by omega)).mono ?_
      rintro e w2 ⟨v2, bs2, rfl, ho2, hlo2, hb2⟩
      obtain ⟨A2, c2, rfl, -, -⟩ := ho2.slice
      have hO2 := ownsRow_below hOa hb2
      have hI2 := hIa.below hb2
      have hB2 := hBa.trans (hb2.mono hBa.size)
      have q02 := q0a.below hb2 q0a.lt
      have q12 := q1a.below hb2 q1a.lt
      have kt2 := kt.below hb2 kt.lt
      have hsz2 := hb2.size
      simp only [World.size_alloc] at hlo2 hsz2
      have hgw : g < wr.heap.size := Nat.lt_of_lt_of_le hgl HSZ.out
      have hl1 : w1.heap.size ≤ wr.heap.size := HSZ.out
      have hd0 := hO2.cellAt (k * 3 + 1) (by omega)
      have hd1 := hd0.trans (thCs_at HT.out HDK.out 1 (by omega))
      have hfz := hO2.frozenAt (k * 3 + 1)
      simp only [thC, List.getElem?_cons_zero, List.getElem?_cons_succ] at hd1
      have hO3 := (hO2.stored (k * 3 + 1) (.slice A2 t.v.length c2)).1
      rw [thCs_v _ HT.out HDK.out] at hO3
      have hk1 : (vn ++ vs.drop k).set k (.slice A2 t.v.length c2, .slice Af t.f.length cf) = (vn ++ [(.slice A2 t.v.length c2, .slice Af t.f.length cf)]) ++ vs.drop (k + 1) := set_mid _ HL.out.1 (by omega)
      have ho3 := ho2.far (b := g) (i := k * 3 + 1) (u := .slice A2 t.v.length c2) fun x hx => by have := hlo2 x hx; omega
      have hI3 := hI2.far (b := g) (k := k * 3 + 1) (u := .slice A2 t.v.length c2) fun x hx => by have := HBS.out x hx; omega
      have hB3 := hB2.setCell (p := ⟨g, k * 3 + 1, none⟩) (by show w.heap.size ≤ g; omega) (.slice A2 t.v.length c2)
      have q03 := q02.far (p := ⟨g, k * 3 + 1, none⟩) (by show w.heap.size ≠ g; omega) (.slice A2 t.v.length c2)
      have q13 := q12.far (p := ⟨g, k * 3 + 1, none⟩) (by show w.heap.size + 1 ≠ g; omega) (.slice A2 t.v.length c2)
      have kt3 := kt2.far (p := ⟨g, k * 3 + 1, none⟩) (by show wr.heap.size ≠ g; omega) (.slice A2 t.v.length c2)
      have rb3 := RB.out.below hB3
      have hs3 : (w2.setCell ⟨g, k * 3 + 1, none⟩ (.slice A2 t.v.length c2)).heap.size = w2.heap.size := by simp [World.setCell]
      obtain ⟨t2, -⟩ := kt3.at_ 2 (x := .slice Af t.f.length cf) rfl
      obtain ⟨t1, -⟩ := kt2.at_ 2 (x := .slice Af t.f.length cf) rfl
      have HO3 := Lib.hid hO3
      have HK1 := Lib.hid hk1
      have HB3 := Lib.hid hB3
      clear hb2 hO2 hI2 hB2 q02 q12 hO3 hk1 hd0 ho2 hc0 hc1 hc2 hOa hIa hBa q0a q1a kt hA ra hB3
      go_wp2_with fail
      refine (cloneSlots _ t.f _ rb3 (by omega)).mono ?_
      rintro e w4 ⟨v4, rfl, hO4, hb4⟩
      obtain ⟨bs4, ho4, hlo4⟩ := Own.of_owns hO4
      obtain ⟨A4, c4, rfl, -, -⟩ := ho4.slice
      rw [hs3] at hlo4
      have hO5 := ownsRow_below HO3.out hb4
      have ho5 := ho3.below hb4
      have hI5 := hI3.below hb4
      have hB5 := HB3.out.trans (hb4.mono HB3.out.size)
      have q05 := q03.below hb4 q03.lt
      have q15 := q13.below hb4 q13.lt
      have hs5 := hb4.size
      rw [hs3] at hs5
      have hset : ((vn ++ vs.drop k).set k (.slice A2 t.v.length c2, .slice Af t.f.length cf))[k]? = some (.slice A2 t.v.length c2, .slice Af t.f.length cf) := List.getElem?_set_self (by rw [List.length_append, List.length_drop, HL.out.1]; omega)
      have hd2 := (hO5.cellAt (k * 3 + 2) (by omega)).trans (thCs_at HT.out hset 2 (by omega))
      have hfz2 := hO5.frozenAt (k * 3 + 2)
      simp only [thC, List.getElem?_cons_zero, List.getElem?_cons_succ] at hd2
      have hO6 := (hO5.stored (k * 3 + 2) (.slice A4 t.f.length c4)).1
      rw [thCs_f _ HT.out hset, List.set_set, set_mid _ HL.out.1 (by omega)] at hO6
      have hv' : vn.length = (M.ths.take k).length := by rw [List.length_take, HL.out.1]; omega
      have hq' : qs.length = (M.ths.take k).length := by rw [List.length_take, HL.out.2]; omega
      have hi2 := ho3.lt
      rw [hs3] at hi2
      have hI6 := rows_snoc hv' hq' hI5 ho5 ho4 (fun x hx hm => by have := hi2 x hx; have := hlo4 x hm; omega) (fun x hx hm => by have := hlo2 x hx; have := hilt x hm; omega) (fun x hx hm => by have := hlo4 x hx; have := hilt x hm; omega)
      have hBS6 := blks_snoc (t := t) (a := .slice A2 t.v.length c2) (b := .slice A4 t.f.length c4) hv' hq' HBS.out (fun x hx => by have := hlo2 x hx; show w1.heap.size ≤ x; omega) (fun x hx => by have := hlo4 x hx; show w1.heap.size ≤ x; omega)
      rw [← take_succ_at HT.out] at hI6 hBS6
      have hI7 := hI6.far (b := g) (k := k * 3 + 2) (u := .slice A4 t.f.length c4) fun x hx => by have := hBS6 x hx; omega
      have hB7 := hB5.setCell (p := ⟨g, k * 3 + 2, none⟩) (by show w.heap.size ≤ g; omega) (.slice A4 t.f.length c4)
      have q07 := q05.far (p := ⟨g, k * 3 + 2, none⟩) (by show w.heap.size ≠ g; omega) (.slice A4 t.f.length c4)
      have q17 := q15.far (p := ⟨g, k * 3 + 2, none⟩) (by show w.heap.size + 1 ≠ g; omega) (.slice A4 t.f.length c4)
      have HE := Lib.hid (And.intro hO6 (And.intro hI7 (And.intro hBS6 (And.intro hB7 (And.intro q07 q17)))))
      have HLn : Hid ((vn ++ [((Value.slice A2 t.v.length c2, Value.slice A4 t.f.length c4) : Value × Value)]).length = k + 1 ∧ (qs ++ [(bs2, bs4)]).length = k + 1) := Lib.hid ⟨by simp [HL.out.1], by simp [HL.out.2]⟩
      clear hset hO4 ho4 hO5 ho5 hI5 hB5 q05 q15 hO6 hI6 hBS6 hI7 hB7 q07 q17 hv' hq' hb4 hi2
      go_wp2_with fail
      exact ⟨⟨k + 1, _, _, by omega, by go_num, HLn, HE.out.1, HE.out.2.1, Lib.hid HE.out.2.2.1, HE.out.2.2.2.1, Lib.hid (by simp [World.setCell]; omega), HE.out.2.2.2.2.1, HE.out.2.2.2.2.2⟩, by simp [intOf]; omega⟩
    · obtain rfl : k = M.ths.length := by omega
      obtain ⟨z0, -⟩ := q0.at_ 0 (x := .slice A0 M.mem.length c0) rfl
      have hlw := hI.lt
      have HO := Lib.hid hO
      have hOl := fun q hq => (hO.lt q hq)
      clear hO
      go_wp2_with fail
      refine (copyMem _ M.mem _ (hmem.below hB) (by omega)).mono ?_
      rintro e w2 ⟨v2, bs2, rfl, ho2, hlo2, hb2⟩
      obtain ⟨A2, c2, rfl, -, -⟩ := ho2.slice
      have hO2 := ownsRow_below HO.out hb2
      have hI2 := hI.below hb2
      have hB2 := hB.trans (hb2.mono hB.size)
      have q12 := q1.below hb2 q1.lt
      rw [List.drop_of_length_le (by omega), List.append_nil] at hO2
      rw [List.take_length] at hI2 HBS hlw
      obtain ⟨b0, hr0, hl0⟩ := Own.of_owns hO2
      have hb0 : ∀ b ∈ b0, b < w1.heap.size := by
        intro b hb
        obtain ⟨A', c', he, -, -, -, ⟨_, rfl⟩ | ⟨hn0, b', o', hA, rfl, -, -⟩⟩ := hr0
        · simp at hb
        · obtain ⟨g, hg, hgl, -⟩ := owns_some hO1' hn0
          injection he with he
          rw [he, hA] at hg
          injection hg with hg
          injection hg with hg
          simp at hb
          omega
      have hT : OwnTS w2 (.slice Ar M.ths.length cr) M.ths (b0 ++ blks (thRows M.ths vn qs)) :=
        ⟨vn, qs, b0, HL.out.1, HL.out.2, OwnR.cons (r := ⟨_, 3, M.ths.length, _, b0⟩) hr0 hI2 (fun b hb hm => by have := hb0 b hb; have := HBS.out b hm; omega), by rw [blks_cons]⟩
      have hTl : ∀ b ∈ b0 ++ blks (thRows M.ths vn qs), w.heap.size + 2 ≤ b ∧ b < wr.heap.size := fun b hb => by
        rcases List.mem_append.1 hb with hb | hb
        · exact ⟨hl0 b hb, Nat.lt_of_lt_of_le (hb0 b hb) HSZ.out⟩
        · refine ⟨?_, hlw b hb⟩
          have := HBS.out b hb
          have := hO1'
          have := K1lt
          omega
      have hMa := OwnMa.mk (M := M) ho2 hT (fun b hb hm => by have := hlo2 b hb; have := (hTl b hm).2; omega)
      have hall : ∀ b ∈ bs2 ++ (b0 ++ blks (thRows M.ths vn qs)), w.heap.size + 2 ≤ b := fun b hb => by
        rcases List.mem_append.1 hb with hb | hb
        · have := hlo2 b hb
          have := HSZ.out
          have := K1lt
          omega
        · exact (hTl b hb).1
      obtain ⟨x0, e0⟩ := q12.at_ 0 (x := .slice none 0 0) rfl
      have q1a := q12.set_ 0 (.slice A2 M.mem.length c2)
      obtain ⟨x1, e1⟩ := q1a.at_ 1 (x := .slice none 0 0) rfl
      have q1b := q1a.set_ 1 (.slice Ar M.ths.length cr)
      obtain ⟨r0, -⟩ := q1b.at_ 0 (x := .slice A2 M.mem.length c2) rfl
      obtain ⟨r1, -⟩ := q1b.at_ 1 (x := .slice Ar M.ths.length cr) rfl
      have hMf := (hMa.far (b := w.heap.size + 1) (k := 0) (u := .slice A2 M.mem.length c2) (fun b hb => by have := hall b hb; omega)).far (b := w.heap.size + 1) (k := 1) (u := .slice Ar M.ths.length cr) (fun b hb => by have := hall b hb; omega)
      have HMf := Lib.hid hMf
      have HALL := Lib.hid hall
      have HB2 := Lib.hid hB2
      clear hMa hMf hT hI2 hO2 hall hTl hr0 hB2 hb2 ho2
      go_wp2_with fail
      exact bodyPost_ret (v := .agg #[.slice A2 M.mem.length c2, .slice Ar M.ths.length cr]) (by simp [results, Try.results85, go_sem, r0, r1]) rfl
        ⟨_, _, _, rfl, HMf.out, fun b hb => by have := HALL.out b hb; omega, (HB2.out.setCell (Nat.le_succ _) _).setCell (Nat.le_succ _) _⟩
end Go.Proofs.Ytiflooopfpcelaa

/- Contracts of the effects of store and swap (package impl). Condition: the thread stands where the pointer says, the instruction is valid. -/
namespace Go.Proofs.Ytiflooopfpcelaa
set_option maxRecDepth 20000
set_option linter.unusedSimpArgs false
set_option linter.unusedVariables false
open Go.ChangeShapes Go.WideShapes Go.ChangeAt Go.RowKit
set_option linter.unusedVariables false
set_option maxHeartbeats 3200000 in
theorem impl_store (gm bT oT c k r : Nat) (i : Ins) (M : Ma) (t : Th) (L : List Nat) (w : World) (h : MBx w gm bT oT c M L) (ht : M.ths[k]? = some t) (hl : t.v.length = 4) (hr : i.r = r) (hr4 : r < 4) (hfl : t.f.length ≤ 16777215) :
    Calls Try.prog 148 #[coreV bT oT k gm, (Value.agg #[.int .i64 i.o, .int .i64 i.r, .int .i64 i.s, .int .i64 i.n])] w (Eff (setTh M k { t with f := putF t.f i.n (t.v.getD r 0) }) L gm bT oT c w) := by
  obtain ⟨mv, vs, qs, bm, hM, rfl⟩ := h
  have hb := ((Below.refl w.heap.size w).alloc (Nat.le_refl _) (.cells #[.pointer (some ⟨bT, oT + k * 3, none⟩), .pointer (some ⟨gm, 0, none⟩)] 123)).alloc (by simp) (.cells #[.int .i64 i.o, .int .i64 r, .int .i64 i.s, .int .i64 i.n] 118)
  have k0 := (Bk.new w #[.pointer (some ⟨bT, oT + k * 3, none⟩), .pointer (some ⟨gm, 0, none⟩)] 123).alloc (.cells #[.int .i64 i.o, .int .i64 r, .int .i64 i.s, .int .i64 i.n] 118)
  have k1 := Bk.new (w.alloc (.cells #[.pointer (some ⟨bT, oT + k * 3, none⟩), .pointer (some ⟨gm, 0, none⟩)] 123)) #[.int .i64 i.o, .int .i64 r, .int .i64 i.s, .int .i64 i.n] 118
  simp only [World.size_alloc] at k1
  obtain ⟨W0, hW0⟩ : ∃ W0, W0 = (w.alloc (.cells #[.pointer (some ⟨bT, oT + k * 3, none⟩), .pointer (some ⟨gm, 0, none⟩)] 123)).alloc (.cells #[.int .i64 i.o, .int .i64 r, .int .i64 i.s, .int .i64 i.n] 118) := ⟨_, rfl⟩
  rw [← hW0] at hb k0 k1
  have hM0 := hM.below hb
  obtain ⟨bv, ov, cv, f, qa, qb, hp, hq, hbv, hc1, hc2, hval⟩ := hM0.valAt ht (by omega)
  obtain ⟨x0, x1, x2, g0, g1, g2⟩ := hM0.cells ht hp
  have lT : bT < W0.heap.size := hM0.lt bT (by simp [tblk])
  have lc := k0.lt
  have li := k1.lt
  obtain ⟨y, hy⟩ : ∃ y, t.v[r]? = some y := ⟨_, List.getElem?_eq_getElem (by omega)⟩
  have P0 := fun p : Past W0 => Past.cell lc (k0.at_ 0 (x := .pointer (some ⟨bT, oT + k * 3, none⟩)) rfl).1 p
  have P1 := fun p : Past W0 => Past.cell li (k1.at_ 1 (x := .int .i64 r) rfl).1 p
  have P2 := fun p : Past W0 => Past.cell li (k1.at_ 3 (x := .int .i64 i.n) rfl).1 p
  have P3 := fun p : Past W0 => Past.cell lT x1 p
  have P4 := fun p : Past W0 => Past.cell lT x2 p
  have P5 := fun p : Past W0 => Past.cell hbv (hval r y hy).1 p
  have HF := Lib.hid (hM0.ths.buf ht hp hq).rd
  have HB := Lib.hid hb
  have HW := Lib.hid hW0
  have HM := Lib.hid hM0
  have hr4' : (r : Int) < t.v.length := by omega
  have hrl : r < t.v.length := by omega
  have HGr : Hid (t.v.getD r 0 = y) := Lib.hid (by rw [List.getD_eq_getElem?_getD, hy]; rfl)
  have HG := Lib.hid (And.intro x2 g2)
  rw [HGr.out]
  unfold coreV
  rw [hr]
  clear hb hW0 hM0 hval k0 k1 hl hy x0 x1 x2 g0 g1 g2
  go_enter Try.func148, Try.ntmps148
  go_wp2_with fail
  rw [← HW.out]
  refine wp_region_two 24 24 (fun w' => ∃ p : Past W0, w' = p.v) (fun _ => True) (by kernel_rfl) ?_
  refine wpAnyX_pass (C := (fun w' => ∃ p : Past W0, w' = p.v)) (some false) [true, true, true, true, true, true, true, true, true, true, true, true, true, true, true, true, true, true] rfl (by kernel_rfl) (fun _ _ t _ _ h => by cases t <;> exact h) ⟨fun _ => ⟨⟨W0.drew, (Below.refl _ _).drew⟩, rfl⟩, fun _ => trivial⟩ ?_
  simp only [keepOps]
  repeat (go_big_quiet_step (fail))
  refine wpQuiet_nil ?_
  refine wpAnyX_one 18 rfl (by kernel_rfl) (by kernel_rfl) ?_
  go_wp2_with fail
  refine (impl_PutSlot f t.f i.n y _ (HF.out.below (Below.refl _ _).drew) hfl).mono ?_
  rintro e w1 ⟨f', qb', rfl, ho1, hlo1', hb1⟩
  have hlo1 : ∀ b ∈ qb', W0.heap.size ≤ b := hlo1'
  clear hlo1'
  obtain ⟨A1, c1, rfl, -, -⟩ := ho1.slice
  go_wp2_with fail
  refine ⟨⟨fun _ => ⟨⟨w1, (Below.refl _ _).drew.trans hb1⟩, rfl⟩, fun _ => trivial⟩, ?_⟩
  refine wpAnyX_pass (C := (fun _ => True)) none [false, false, false, false, false, false, false, false, false, false, false, false, false, false, false, false, false, false, false, true, true, true, true, true] rfl (by kernel_rfl) (fun _ _ t _ _ h => by cases t <;> exact h) ⟨fun _ => ⟨⟨w1, (Below.refl _ _).drew.trans hb1⟩, rfl⟩, fun _ => trivial⟩ ?_
  simp only [keepOps]
  repeat (go_big_quiet_step (fail))
  refine wpQuiet_nil ?_
  have hb01 := (Below.refl W0.heap.size W0).drew.trans hb1
  have hM1 := HM.out.below hb01
  obtain ⟨-, -, x2, -, -, g2⟩ := hM1.cells ht hp
  have hPF := hM1.putF ht hp hq ho1 (fun b hb => .inr fun hm => by have := hlo1 b hb; have := HM.out.lt b hm; omega)
  have HPF := Lib.hid hPF
  have HB1 := Lib.hid hb01
  have HLO := Lib.hid hlo1
  clear hPF hb1 hM1 ho1 hlo1 hb01
  refine wpAnyX_one 24 rfl (by kernel_rfl) (by kernel_rfl) ?_
  go_wp2_with fail
  refine ⟨⟨fun h => absurd (show true = false from h) (by decide), fun _ => trivial⟩, ?_⟩
  refine wpAnyX_done (by kernel_rfl) ?_
  go_wp2_with fail
  go_end0
  refine eff_of HPF.out.1 (((Only.of_below HB.out _).trans (Only.of_below (HB1.out.mono (by have := HB.out.size; omega)) _)).trans ((Only.setCell _ _).mono fun b hb => by simp at hb; subst hb; simp [tblk])) (fun b hb => ?_) (Below.refl _ _)
  rcases List.mem_cons.1 hb with h | h
  · exact .inl (by simp [h])
  · rcases List.mem_append.1 h with h | h
    · exact .inl (by simp [h])
    · rcases HPF.out.2 b h with h | h
      · exact .inl (by simp [h])
      · exact .inr (by have := HLO.out b h; have := HB.out.size; have := HB1.out.size; simp at *; omega)
set_option maxHeartbeats 3200000 in
theorem impl_swap (gm bT oT c k r s a : Nat) (i : Ins) (M : Ma) (t : Th) (L : List Nat) (w : World) (h : MBx w gm bT oT c M L) (ht : M.ths[k]? = some t) (hl : t.v.length = 4) (hr : i.r = r) (hr4 : r < 4) (hs : i.s = s) (hs4 : s < 4) (hn : i.n = a) (ha : a < M.mem.length) :
    Calls Try.prog 152 #[coreV bT oT k gm, (Value.agg #[.int .i64 i.o, .int .i64 i.r, .int .i64 i.s, .int .i64 i.n])] w (Eff ⟨M.mem.set a (t.v.getD s 0), M.ths.set k { t with v := t.v.set r (M.mem.getD a 0) }⟩ L gm bT oT c w) := by
  obtain ⟨mv, vs, qs, bm, hM, rfl⟩ := h
  have hb := ((Below.refl w.heap.size w).alloc (Nat.le_refl _) (.cells #[.pointer (some ⟨bT, oT + k * 3, none⟩), .pointer (some ⟨gm, 0, none⟩)] 123)).alloc (by simp) (.cells #[.int .i64 i.o, .int .i64 r, .int .i64 s, .int .i64 a] 118)
  have k0 := (Bk.new w #[.pointer (some ⟨bT, oT + k * 3, none⟩), .pointer (some ⟨gm, 0, none⟩)] 123).alloc (.cells #[.int .i64 i.o, .int .i64 r, .int .i64 s, .int .i64 a] 118)
  have k1 := Bk.new (w.alloc (.cells #[.pointer (some ⟨bT, oT + k * 3, none⟩), .pointer (some ⟨gm, 0, none⟩)] 123)) #[.int .i64 i.o, .int .i64 r, .int .i64 s, .int .i64 a] 118
  simp only [World.size_alloc] at k1
  obtain ⟨W0, hW0⟩ : ∃ W0, W0 = (w.alloc (.cells #[.pointer (some ⟨bT, oT + k * 3, none⟩), .pointer (some ⟨gm, 0, none⟩)] 123)).alloc (.cells #[.int .i64 i.o, .int .i64 r, .int .i64 s, .int .i64 a] 118) := ⟨_, rfl⟩
  rw [← hW0] at hb k0 k1
  have hM0 := hM.below hb
  obtain ⟨bv, ov, cv, f, qa, qb, hp, hq, hbv, hc1, hc2, hval⟩ := hM0.valAt ht (by omega)
  obtain ⟨x0, x1, x2, g0, g1, g2⟩ := hM0.cells ht hp
  obtain ⟨bc, oc, cc, rfl, rfl, hbcl, hmat, hcc1, hcc2⟩ := hM0.mem.open_ (by omega)
  have lT : bT < W0.heap.size := hM0.lt bT (by simp [tblk])
  have lg : gm < W0.heap.size := hM0.lt gm (by simp)
  have lc := k0.lt
  have li := k1.lt
  obtain ⟨y, hy⟩ : ∃ y, t.v[r]? = some y := ⟨_, List.getElem?_eq_getElem (by omega)⟩
  obtain ⟨z, hz⟩ : ∃ z, t.v[s]? = some z := ⟨_, List.getElem?_eq_getElem (by omega)⟩
  obtain ⟨u, hu⟩ : ∃ u, M.mem[a]? = some u := ⟨_, List.getElem?_eq_getElem (by omega)⟩
  have hvu := hmat a (.int .i64 u) (by simp [ints, hu])
  have P0 := fun p : Past W0 => Past.cell lc (k0.at_ 0 (x := .pointer (some ⟨bT, oT + k * 3, none⟩)) rfl).1 p
  have P0b := fun p : Past W0 => Past.cell lc (k0.at_ 1 (x := .pointer (some ⟨gm, 0, none⟩)) rfl).1 p
  have P1 := fun p : Past W0 => Past.cell li (k1.at_ 1 (x := .int .i64 r) rfl).1 p
  have P2 := fun p : Past W0 => Past.cell li (k1.at_ 2 (x := .int .i64 s) rfl).1 p
  have P3 := fun p : Past W0 => Past.cell li (k1.at_ 3 (x := .int .i64 a) rfl).1 p
  have P4 := fun p : Past W0 => Past.cell lT x1 p
  have P5 := fun p : Past W0 => Past.cell hbv (hval r y hy).1 p
  have P6 := fun p : Past W0 => Past.cell hbv (hval s z hz).1 p
  have P7 := fun p : Past W0 => Past.cell lg (hM0.box.at_ 0 (x := .slice (some ⟨bc, oc, none⟩) M.mem.length cc) rfl).1 p
  have P8 := fun p : Past W0 => Past.cell hbcl hvu.1 p
  have hbw : bv < w.heap.size := hM.lt bv (by have := (hM0.setV ht hp hq r (by omega) 0).2; simp [this])
  have P9 := fun p : PastO [bv] W0 => PastO.cell li (by simp; omega) (k1.at_ 3 (x := .int .i64 a) rfl).1 p
  have HV := Lib.hid (And.intro (hval r y hy).1 (hval r y hy).2)
  have HU := Lib.hid hvu
  have HB := Lib.hid hb
  have HM := Lib.hid hM0
  have HW := Lib.hid hW0
  have hr4' : (r : Int) < t.v.length := by omega
  have hs4' : (s : Int) < t.v.length := by omega
  have ha' : (a : Int) < M.mem.length := by omega
  have HGs : Hid (t.v.getD s 0 = z) := Lib.hid (by rw [List.getD_eq_getElem?_getD, hz]; rfl)
  have HGa : Hid (M.mem.getD a 0 = u) := Lib.hid (by rw [List.getD_eq_getElem?_getD, hu]; rfl)
  have HS1 := Lib.hid (HM.out.setV ht hp hq r (by omega) u)
  have HS2 := Lib.hid (HS1.out.1.setM a ha z)
  have hne : bv ≠ bc := fun e => HM.out.d1 bc (by simp) (e ▸ HS1.out.2)
  have hcb := World.cell?_setCell_far W0 ⟨bv, ov + r, none⟩ ⟨bc, oc + a, none⟩ (.int .i64 u) hne
  have HC1 : Hid ((W0.setCell ⟨bv, ov + r, none⟩ (.int .i64 u)).cell? ⟨bc, oc + a, none⟩ = some (.int .i64 u) ∧ (W0.setCell ⟨bv, ov + r, none⟩ (.int .i64 u)).frozen? ⟨bc, oc + a, none⟩ = false) :=
    Lib.hid ⟨(World.cell?_setCell_far W0 ⟨bv, ov + r, none⟩ ⟨bc, oc + a, none⟩ (.int .i64 u) hne).trans hvu.1, (World.frozen?_setCell _ _ _ _).trans hvu.2⟩
  rw [HGs.out, HGa.out]
  unfold coreV
  rw [hr, hs, hn]
  clear hb hW0 hM0 hval k0 k1 hl hy hz hu hmat x0 x1 x2 g0 g1 g2 hvu hcb
  go_enter Try.func152, Try.ntmps152
  go_wp2_with fail
  rw [← HW.out]
  refine wp_region_two 35 33 (fun w' => ∃ p : PastO [bv] W0, w' = p.v) (fun w' => ∃ p : Past W0, w' = p.v) (by kernel_rfl) ?_
  refine wpAnyX_pass (C := (fun w' => ∃ p : Past W0, w' = p.v)) (some true) [true, true, true, true, true, true, true, true, true, true, true, true, false, false, true, true, true, true, true, true, true, true, true, true, true, true, true, true, true, true, true, true, true] rfl (by kernel_rfl) (fun _ _ t _ _ h => by cases t <;> exact h) ⟨fun _ => ⟨⟨W0.drew, Only.of_below (Below.refl _ _).drew _⟩, rfl⟩, fun _ => ⟨⟨W0.drew, (Below.refl _ _).drew⟩, rfl⟩⟩ ?_
  simp only [keepOps]
  repeat (go_big_quiet_step (fail))
  refine wpQuiet_nil ?_
  clear P0 P0b P1 P2 P3 P4 P5 P6 P7 P8
  refine wpAnyX_pass (C := (fun w' => ∃ p : PastO [bv] W0, w' = p.v)) (some false) [false, false, false, false, false, false, false, false, false, false, false, false, true, true] rfl (by kernel_rfl) (fun _ _ t _ _ h => by cases t <;> exact h) ⟨fun _ => ⟨⟨W0.drew, Only.of_below (Below.refl _ _).drew _⟩, rfl⟩, fun _ => ⟨⟨W0.drew, (Below.refl _ _).drew⟩, rfl⟩⟩ ?_
  simp only [keepOps]
  repeat (go_big_quiet_step (fail))
  refine wpQuiet_nil ?_
  obtain ⟨vy, fy⟩ := HV.out
  refine wpAnyX_one 33 rfl (by kernel_rfl) (by kernel_rfl) ?_
  go_wp2_with fail
  refine ⟨⟨fun _ => ⟨⟨_, (Only.of_below (Below.refl _ _).drew _).trans (Only.setCell _ _)⟩, rfl⟩, fun h => absurd (show true = false from h) (by decide)⟩, ?_⟩
  refine wpAnyX_pass (C := (fun _ => True)) none [false, false, false, false, false, false, false, false, false, false, false, false, false, false, false, false, false, false, false, false, false, false, false, false, false, false, false, false, false, false, false, false, false, false, true] rfl (by kernel_rfl) (fun _ _ t _ _ h => by cases t <;> exact h) ⟨fun _ => ⟨⟨_, (Only.of_below (Below.refl _ _).drew _).trans (Only.setCell _ _)⟩, rfl⟩, fun h => absurd (show true = false from h) (by decide)⟩ ?_
  simp only [keepOps]
  repeat (go_big_quiet_step (fail))
  refine wpQuiet_nil ?_
  obtain ⟨vu, fu⟩ := HC1.out
  refine wpAnyX_one 35 rfl (by kernel_rfl) (by kernel_rfl) ?_
  go_wp2_with fail
  refine ⟨⟨fun h => absurd (show true = false from h) (by decide), fun h => absurd (show true = false from h) (by decide)⟩, ?_⟩
  refine wpAnyX_done (by kernel_rfl) ?_
  go_wp2_with fail
  go_end0
  exact eff_of HS2.out.1 (((Only.of_below HB.out _).trans ((Only.setCell _ _).mono fun b hb => by have := HS1.out.2; simp at hb; subst hb; simp [this])).trans ((Only.setCell _ _).mono fun b hb => by simp at hb; subst hb; simp)) (fun b hb => .inl (by simpa [setTh, tblk_len (us := M.ths) List.length_set] using hb)) (by first | exact (Below.refl _ _) | exact (Below.refl _ _).drew)
end Go.Proofs.Ytiflooopfpcelaa

/- Contract of execute (package impl): a thread carries out its next instruction. Condition: the machine lies in the box, the thread can execute. -/
namespace Go.Proofs.Ytiflooopfpcelaa
set_option maxRecDepth 20000
set_option linter.unusedSimpArgs false
set_option linter.unusedVariables false
open Go.ChangeShapes Go.WideShapes Go.ChangeAt Go.RowKit
set_option linter.unusedVariables false
theorem Eff.trans {M' : Ma} {L L1 : List Nat} {gm bT oT c : Nat} {w w1 : World} {e : Ending} {w' : World} (h : Eff M' L1 gm bT oT c w1 e w') (ho : Only L w w1) (hL : ∀ b ∈ L1, b ∈ L) : Eff M' L gm bT oT c w e w' := by
  obtain ⟨h1, L', h2, h3, h4⟩ := h
  exact ⟨h1, L', h2, ho.trans (h3.mono hL), fun b hb => by rcases h4 b hb with h | h; exact .inl (hL b h); exact .inr (Nat.le_trans ho.size h)⟩
theorem gv_nat {t : Th} {r : Nat} {x : Int} (h : x = r) : gv t x = t.v.getD r 0 := by unfold gv; rw [h, Int.toNat_natCast]
set_option maxHeartbeats 3200000 in
theorem impl_effect (F : FuncId) (gm bT oT c k : Nat) (i : Ins) (cn n : Int) (code : List Ins) (M : Ma) (t : Th) (L : List Nat) (w : World) (h : MBx w gm bT oT c M L) (ht : M.ths[k]? = some t) (hth : thOk cn t code = true) (hi : InsR3 i cn n) (hml : (M.mem.length : Int) = cn) (hc : cn ≤ 16)
    (h3 : t.f.length ≤ 3) (hF : effV i.o = .func (.func F) #[] #[]) :
    Calls Try.prog F #[coreV bT oT k gm, (Value.agg #[.int .i64 i.o, .int .i64 i.r, .int .i64 i.s, .int .i64 i.n])] w (Eff (effF M k t i) L gm bT oT c w) := by
  obtain ⟨h1, hl, hf, hv, hlo⟩ := thOk_parts hth
  obtain ⟨r, hr⟩ : ∃ r : Nat, i.r = r := ⟨i.r.toNat, by have := hi.r; omega⟩
  obtain ⟨s, hs⟩ : ∃ s : Nat, i.s = s := ⟨i.s.toNat, by have := hi.s; omega⟩
  have hr4 : r < 4 := by have := hi.r; omega
  have hs4 : s < 4 := by have := hi.s; omega
  have ho := hi.o
  have hwf : i.o = 2 → (Lit.int .i64 i.n).wf = true := fun h => wf_small (by have := hi.n2 (by omega); omega)
  have ha : i.o = 5 ∨ i.o = 7 → ∃ a : Nat, i.n = a ∧ a < M.mem.length := fun h => ⟨i.n.toNat, by have := hi.n2 (by omega); omega, by have := hi.n2 (by omega); omega⟩
  have hset : setTh M k t = M := by unfold setTh; rw [set_same ht]
  obtain h0 | h0 | h0 | h0 | h0 | h0 | h0 | h0 | h0 : i.o = 0 ∨ i.o = 1 ∨ i.o = 2 ∨ i.o = 3 ∨ i.o = 4 ∨ i.o = 5 ∨ i.o = 6 ∨ i.o = 7 ∨ i.o = 8 := by omega
  all_goals
    have hF' := hF
    rw [h0] at hF'
    injection hF' with hF'
    injection hF' with hF'
    subst hF'
  · have hE : effF M k t i = setTh M k { t with v := t.v.set r i.n } := by simp [effF, effM, effT, setTh, h0, hr]
    rw [hE]
    exact impl_set gm bT oT c k r i M t L w h ht hl hr hr4
  · have hE : effF M k t i = setTh M k { t with v := t.v.set r (clampF (t.v.getD r 0 + t.v.getD s 0)) } := by simp [effF, effM, effT, setTh, h0, hr, hs, gv]
    rw [hE]
    exact impl_add gm bT oT c k r s i M t L w h ht hl hr hr4 hs hs4 hv
  · have hE : effF M k t i = setTh M k { t with v := t.v.set r (readF3 t.f M.mem i.n) } := by simp [effF, effM, effT, setTh, h0, hr]
    rw [hE]
    exact impl_load gm bT oT c k r i M t L w h ht hl hr hr4 (hwf h0)
  · have hE : effF M k t i = setTh M k { t with f := putF t.f i.n (t.v.getD r 0) } := by simp [effF, effM, effT, setTh, h0, hr, gv]
    rw [hE]
    exact impl_store gm bT oT c k r i M t L w h ht hl hr hr4 (by omega)
  · have hE : effF M k t i = M := by simp only [effF, effM, effT, h0]; exact hset
    rw [hE]
    exact impl_fence gm bT oT c k i M L w h
  · obtain ⟨a, hn, ham⟩ := ha (by omega)
    have hE : effF M k t i = if M.mem.getD a 0 = t.v.getD r 0 then ⟨M.mem.set a (t.v.getD s 0), M.ths.set k { t with v := t.v.set r 1 }⟩ else setTh M k { t with v := t.v.set r 0 } := by
      by_cases e : M.mem.getD a 0 = t.v.getD r 0
      · rw [if_pos e]
        simp only [effF, effM, effT, h0, hr, hs, hn, gv, Int.toNat_natCast, e]
        rfl
      · rw [if_neg e]
        simp only [effF, effM, effT, h0, hr, hs, hn, gv, Int.toNat_natCast, if_neg e]
        rfl
    rw [hE]
    exact impl_cas gm bT oT c k r s a i M t L w h ht hl hr hr4 hs hs4 hn ham
  · have hE : effF M k t i = if t.v.getD r 0 = 0 then setTh M k { t with pc := i.n } else M := by
      by_cases e : t.v.getD r 0 = 0
      · rw [if_pos e]
        simp only [effF, effM, effT, h0, hr, gv, Int.toNat_natCast, e]
        rfl
      · rw [if_neg e]
        simp only [effF, effM, effT, h0, hr, gv, Int.toNat_natCast, if_neg e]
        exact hset
    rw [hE]
    exact impl_jz gm bT oT c k r i M t L w h ht hl hr hr4
  · obtain ⟨a, hn, ham⟩ := ha (by omega)
    have hE : effF M k t i = ⟨M.mem.set a (t.v.getD s 0), M.ths.set k { t with v := t.v.set r (M.mem.getD a 0) }⟩ := by simp [effF, effM, effT, h0, hr, hs, hn, gv]
    rw [hE]
    exact impl_swap gm bT oT c k r s a i M t L w h ht hl hr hr4 hs hs4 hn ham
  · have hE : effF M k t i = setTh M k { t with v := t.v.set r (clampF (t.v.getD r 0 - t.v.getD s 0)) } := by simp [effF, effM, effT, setTh, h0, hr, hs, gv]
    rw [hE]
    exact impl_sub gm bT oT c k r s i M t L w h ht hl hr hr4 hs hs4 hv
theorem effV_func (o : Int) : ∃ F, effV o = .func (.func F) #[] #[] := by
  unfold effV
  repeat' split
  all_goals exact ⟨_, rfl⟩
set_option maxHeartbeats 3200000 in
theorem impl_execute (gm bT oT c k : Nat) (cv : Value) (code : List Ins) (p : Pr) (M : Ma) (t : Th) (L : List Nat) (w : World) (h : MBx w gm bT oT c M L) (ht : M.ths[k]? = some t) (hth : thOk p.c t code = true) (hE : Exec p t code (insAt t code)) (hml : (M.mem.length : Int) = p.c) (hc16 : p.c ≤ 16) (hr : Rd w cv 4 code.length (flc code)) :
    Calls Try.prog 88 #[coreV bT oT k gm, cv] w (Eff (execF M k t code) L gm bT oT c w) := by
  obtain ⟨A, cc, rfl, -, hnc, hcc, hrc⟩ := id hr
  unfold maxLen at hcc
  obtain ⟨n, hn⟩ : ∃ n : Nat, t.pc = n := ⟨t.pc.toNat, by have := hE.lt; omega⟩
  have hnl : n < code.length := by have := hE.lt; omega
  obtain ⟨b, o, rfl, hb, hcell⟩ := hrc (by omega)
  obtain ⟨i, hik, hx0, hx1, hx2, hx3⟩ := ins_at hcell hnl
  have hi : insAt t code = i := by
    unfold insAt
    rw [hn, Int.toNat_natCast, List.getD_eq_getElem?_getD, hik.out]
    rfl
  rw [hi] at hE
  have HX : Hid (execF M k t code = effF M k (stepT t) i) := Lib.hid (by unfold execF; rw [hi])
  rw [HX.out]
  obtain ⟨mv, vs, qs, bm, hM, rfl⟩ := h
  obtain ⟨a, f, qa, qb, hp, hq⟩ := hM.ths.get ht
  obtain ⟨x0, x1, x2, g0, g1, g2⟩ := hM.cells ht hp
  have hbT : bT < w.heap.size := hM.lt bT (by simp [tblk])
  have hpcw : IntKind.i64.wrap (t.pc + 1) = t.pc + 1 := IntWalk.i64_in _ (by have := hE.lt; have := hnc; omega)
  rw [hn] at x0 hpcw
  have hnl' : (n : Int) < code.length := by omega
  have hM1 := hM.setPc ht (t.pc + 1)
  have hS : ∀ u, (w.setCell ⟨bT, oT + k * 3, none⟩ u).heap.size = w.heap.size := fun u => by simp [World.setCell]
  rw [hn] at hM1
  have hb1 := ((Below.refl _ (w.setCell ⟨bT, oT + k * 3, none⟩ (.int .i64 (n + 1)))).alloc (Nat.le_refl _) (.cells #[.pointer (some ⟨bT, oT + k * 3, none⟩), .pointer (some ⟨gm, 0, none⟩)] 123)).alloc (by simp) (.cells #[.int .i64 i.o, .int .i64 i.r, .int .i64 i.s, .int .i64 i.n] 118)
  have k0 := (Bk.new (w.setCell ⟨bT, oT + k * 3, none⟩ (.int .i64 (n + 1))) #[.pointer (some ⟨bT, oT + k * 3, none⟩), .pointer (some ⟨gm, 0, none⟩)] 123).alloc (.cells #[.int .i64 i.o, .int .i64 i.r, .int .i64 i.s, .int .i64 i.n] 118)
  have k1 := Bk.new ((w.setCell ⟨bT, oT + k * 3, none⟩ (.int .i64 (n + 1))).alloc (.cells #[.pointer (some ⟨bT, oT + k * 3, none⟩), .pointer (some ⟨gm, 0, none⟩)] 123)) #[.int .i64 i.o, .int .i64 i.r, .int .i64 i.s, .int .i64 i.n] 118
  simp only [World.size_alloc, hS] at k0 k1
  obtain ⟨WW, hWW⟩ : ∃ WW, WW = ((w.setCell ⟨bT, oT + k * 3, none⟩ (.int .i64 (n + 1))).alloc (.cells #[.pointer (some ⟨bT, oT + k * 3, none⟩), .pointer (some ⟨gm, 0, none⟩)] 123)).alloc (.cells #[.int .i64 i.o, .int .i64 i.r, .int .i64 i.s, .int .i64 i.n] 118) := ⟨_, rfl⟩
  rw [← hWW] at hb1 k0 k1
  have lc := k0.lt
  have li := k1.lt
  have P0 := fun q : Past WW => Past.cell lc (k0.at_ 0 (x := .pointer (some ⟨bT, oT + k * 3, none⟩)) rfl).1 q
  have P1 := fun q : Past WW => Past.cell lc (k0.at_ 1 (x := .pointer (some ⟨gm, 0, none⟩)) rfl).1 q
  have P2 := fun q : Past WW => Past.cell li (k1.at_ 0 (x := .int .i64 i.o) rfl).1 q
  have P3 := fun q : Past WW => Past.cell li (k1.at_ 1 (x := .int .i64 i.r) rfl).1 q
  have P4 := fun q : Past WW => Past.cell li (k1.at_ 2 (x := .int .i64 i.s) rfl).1 q
  have P5 := fun q : Past WW => Past.cell li (k1.at_ 3 (x := .int .i64 i.n) rfl).1 q
  have HMW := Lib.hid ((hM1.below hb1).x)
  have HO : Hid (Only (gm :: (bm ++ tblk M.ths vs qs bT)) w WW) := Lib.hid (((Only.setCell _ _).mono fun b hb => by simp at hb; subst hb; simp [tblk]).trans (Only.of_below hb1 _))
  have HW := Lib.hid hWW
  have HE := Lib.hid hE
  have HTH := Lib.hid hth
  have HC16 := Lib.hid hc16
  have HML := Lib.hid hml
  obtain ⟨F, hF⟩ := effV_func i.o
  have HF := Lib.hid hF
  have hol := hE.r.o
  clear hr hrc hcell hM hE hml hth x1 x2 g1 g2 hi hM1 hb1 k0 k1 hWW hF
  unfold coreV
  go_enter Try.func88, Try.ntmps88
  go_wp2_with fail
  rw [← HW.out]
  refine wp_region_two 5 5 (fun w' => ∃ q : Past WW, w' = q.v) (fun _ => True) (by kernel_rfl) ?_
  refine wpAnyX_pass (C := (fun w' => ∃ q : Past WW, w' = q.v)) (some false) [true, false, false, true, true] rfl (by kernel_rfl) (fun _ _ t _ _ h => by cases t <;> exact h) ⟨fun _ => ⟨⟨WW.drew, (Below.refl _ _).drew⟩, rfl⟩, fun _ => trivial⟩ ?_
  simp only [keepOps]
  repeat (go_big_quiet_step (fail))
  refine wpQuiet_nil ?_
  refine wpAnyX_one 1 rfl (by kernel_rfl) (by kernel_rfl) ?_
  go_wp2_with fail
  refine (ins_op i _).mono ?_
  rintro e w1 ⟨rfl, hb1⟩
  have hB1 := (Below.refl WW.heap.size WW).drew.trans hb1
  clear hb1
  go_wp2_with fail
  refine ⟨⟨fun _ => ⟨⟨w1, hB1⟩, rfl⟩, fun _ => trivial⟩, ?_⟩
  refine wpAnyX_one 2 rfl (by kernel_rfl) (by kernel_rfl) ?_
  go_wp2_with fail
  refine (impl_effectOf i.o _ hol).mono ?_
  rintro e w2 ⟨rfl, hb2⟩
  have hB2 := hB1.trans (hb2.mono hB1.size)
  rw [HF.out]
  clear hb2
  go_wp2_with fail
  refine ⟨⟨fun _ => ⟨⟨w2, hB2⟩, rfl⟩, fun _ => trivial⟩, ?_⟩
  have hkl : k < M.ths.length := (List.getElem?_eq_some_iff.1 ht).1
  have hst : (⟨n + 1, t.v, t.f⟩ : Th) = stepT t := by unfold stepT; rw [hn]
  have hEq : effF ⟨M.mem, M.ths.set k ⟨n + 1, t.v, t.f⟩⟩ k (stepT t) i = effF M k (stepT t) i := by unfold effF; simp only [List.set_set]
  have HQ := fun (F' : FuncId) (hF' : effV i.o = .func (.func F') #[] #[]) => impl_effect F' gm bT oT c k i p.c code.length code ⟨M.mem, M.ths.set k ⟨n + 1, t.v, t.f⟩⟩ (stepT t) _ _ (HMW.out.below hB2) (by rw [← hst]; exact List.getElem?_set_self hkl) HE.out.step HE.out.r HML.out (by have := HC16.out; omega) (by have := (thOk_parts HTH.out).2.2.1; exact bufOk_len this) hF'
  rw [hEq] at HQ
  unfold coreV at HQ
  have HQ := Lib.hid HQ
  have HO2 := Lib.hid (HO.out.trans (Only.of_below hB2 _))
  clear hEq hst HMW HO HTH
  obtain h0 | h0 | h0 | h0 | h0 | h0 | h0 | h0 | h0 : i.o = 0 ∨ i.o = 1 ∨ i.o = 2 ∨ i.o = 3 ∨ i.o = 4 ∨ i.o = 5 ∨ i.o = 6 ∨ i.o = 7 ∨ i.o = 8 := by omega
  all_goals
    have hC := HQ.out _ HF.out
    have hF' := HF.out
    rw [h0] at hF'
    injection hF' with hF'
    injection hF' with hF'
    subst hF'
    have HC := Lib.hid hC
    clear hC HQ HF h0
    refine wpAnyX_one 5 rfl (by kernel_rfl) (by kernel_rfl) ?_
    go_wp2_with fail
    refine HC.out.mono ?_
    rintro e w3 ⟨rfl, L', h2, h3, h4⟩
    go_wp2_with fail
    refine ⟨⟨fun h => absurd (show true = false from h) (by decide), fun _ => trivial⟩, ?_⟩
    refine wpAnyX_done (by kernel_rfl) ?_
    go_wp2_with fail
    go_end0
    exact Eff.trans ⟨rfl, L', h2, h3, h4⟩ HO2.out (fun b hb => by simpa [tblk_len (us := M.ths) List.length_set] using hb)
end Go.Proofs.Ytiflooopfpcelaa

/- Contracts of drainOne and drainAll of a thread at work (package impl). Condition: the machine lies in the box. -/
namespace Go.Proofs.Ytiflooopfpcelaa
set_option maxRecDepth 20000
set_option linter.unusedSimpArgs false
set_option linter.unusedVariables false
open Go.ChangeShapes Go.WideShapes Go.ChangeAt Go.RowKit
set_option linter.unusedVariables false
set_option maxHeartbeats 3200000 in
theorem impl_drainOne (gm bT oT c k : Nat) (M : Ma) (t : Th) (L : List Nat) (w : World) (h : MBx w gm bT oT c M L) (ht : M.ths[k]? = some t) (hfl : t.f.length ≤ 16777215) (hml : M.mem.length ≤ 16777215) :
    Calls Try.prog 87 #[coreV bT oT k gm] w (Eff (drainF M k t) L gm bT oT c w) := by
  obtain ⟨mv, vs, qs, bm, hM, rfl⟩ := h
  have hb := (Below.refl w.heap.size w).alloc (Nat.le_refl _) (.cells #[.pointer (some ⟨bT, oT + k * 3, none⟩), .pointer (some ⟨gm, 0, none⟩)] 123)
  have k0 := Bk.new w #[.pointer (some ⟨bT, oT + k * 3, none⟩), .pointer (some ⟨gm, 0, none⟩)] 123
  obtain ⟨W0, hW0⟩ : ∃ W0, W0 = w.alloc (.cells #[.pointer (some ⟨bT, oT + k * 3, none⟩), .pointer (some ⟨gm, 0, none⟩)] 123) := ⟨_, rfl⟩
  rw [← hW0] at hb k0
  have hM0 := hM.below hb
  obtain ⟨a, f, qa, qb, hp, hq⟩ := hM0.ths.get ht
  obtain ⟨x0, x1, x2, g0, g1, g2⟩ := hM0.cells ht hp
  have lT : bT < W0.heap.size := hM0.lt bT (by simp [tblk])
  have lg : gm < W0.heap.size := hM0.lt gm (by simp)
  have lTw : bT < w.heap.size := hM.lt bT (by simp [tblk])
  have lgw : gm < w.heap.size := hM.lt gm (by simp)
  have lc := k0.lt
  have P0 := fun p : Past W0 => Past.cell lc (k0.at_ 0 (x := .pointer (some ⟨bT, oT + k * 3, none⟩)) rfl).1 p
  have P1 := fun p : Past W0 => Past.cell lc (k0.at_ 1 (x := .pointer (some ⟨gm, 0, none⟩)) rfl).1 p
  have P2 := fun p : Past W0 => Past.cell lT x2 p
  have P3 := fun p : Past W0 => Past.cell lg (hM0.box.at_ 0 (x := mv) rfl).1 p
  have HF := Lib.hid (hM0.ths.buf ht hp hq).rd
  have HMM := Lib.hid hM0.mem.rd
  have hmv := hM0.mem
  obtain ⟨Am, cm, rfl, -, -⟩ := hmv.slice
  have HB := Lib.hid hb
  have HM := Lib.hid hM0
  have HW := Lib.hid hW0
  have P9 := fun p : PastO [bT] W0 => PastO.cell lc (by simp; omega) (k0.at_ 1 (x := .pointer (some ⟨gm, 0, none⟩)) rfl).1 p
  unfold coreV
  clear hb hW0 hM0 hM k0 x0 x1 x2 g0 g1 g2 hmv
  go_enter Try.func87, Try.ntmps87
  go_wp2_with fail
  rw [← HW.out]
  refine wp_region_two 22 20 (fun w' => ∃ p : PastO [bT] W0, w' = p.v) (fun w' => ∃ p : Past W0, w' = p.v) (by kernel_rfl) ?_
  refine wpAnyX_pass (C := (fun w' => ∃ p : Past W0, w' = p.v)) (some true) [true, true, false, false, true, true, true, true, true, true, true, true, true] rfl (by kernel_rfl) (fun _ _ t _ _ h => by cases t <;> exact h) ⟨fun _ => ⟨⟨W0.drew, Only.of_below (Below.refl _ _).drew _⟩, rfl⟩, fun _ => ⟨⟨W0.drew, (Below.refl _ _).drew⟩, rfl⟩⟩ ?_
  simp only [keepOps]
  repeat (go_big_quiet_step (fail))
  refine wpQuiet_nil ?_
  clear P0 P1 P2 P3
  refine wpAnyX_pass (C := (fun w' => ∃ p : PastO [bT] W0, w' = p.v)) (some false) [false, false, true, true] rfl (by kernel_rfl) (fun _ _ t _ _ h => by cases t <;> exact h) ⟨fun _ => ⟨⟨W0.drew, Only.of_below (Below.refl _ _).drew _⟩, rfl⟩, fun _ => ⟨⟨W0.drew, (Below.refl _ _).drew⟩, rfl⟩⟩ ?_
  simp only [keepOps]
  repeat (go_big_quiet_step (fail))
  refine wpQuiet_nil ?_
  refine wpAnyX_one 13 rfl (by kernel_rfl) (by kernel_rfl) ?_
  go_wp2_with fail
  refine (impl_DrainOne f _ t.f M.mem _ (HF.out.below (Below.refl _ _).drew) (HMM.out.below (Below.refl _ _).drew) hfl hml).mono ?_
  rintro e w1 ⟨f', qb', m', bm', mid, rfl, ho1, ho2, hlo1', hmid1, hmid2, hmid', hb1⟩
  have hlo1 : ∀ b ∈ qb', W0.heap.size ≤ b := hlo1'
  have hmid : W0.heap.size ≤ mid := hmid'
  clear hlo1' hmid'
  obtain ⟨A1, c1, rfl, -, -⟩ := ho1.slice
  obtain ⟨A2, c2, rfl, -, -⟩ := ho2.slice
  have hb01 := (Below.refl W0.heap.size W0).drew.trans hb1
  go_wp2_with fail
  refine ⟨⟨fun _ => ⟨⟨w1, Only.of_below hb01 _⟩, rfl⟩, fun _ => ⟨⟨w1, hb01⟩, rfl⟩⟩, ?_⟩
  refine wpAnyX_pass (C := (fun _ => True)) none [false, false, false, false, false, false, false, false, false, false, false, false, false, false, true, true, true, true, true, true] rfl (by kernel_rfl) (fun _ _ t _ _ h => by cases t <;> exact h) ⟨fun _ => ⟨⟨w1, Only.of_below hb01 _⟩, rfl⟩, fun _ => ⟨⟨w1, hb01⟩, rfl⟩⟩ ?_
  simp only [keepOps]
  repeat (go_big_quiet_step (fail))
  refine wpQuiet_nil ?_
  have hM1 := HM.out.below hb01
  obtain ⟨-, -, x2, -, -, g2⟩ := hM1.cells ht hp
  have hPF := hM1.putF ht hp hq ho1 (fun b hb => .inr fun hm => by have := hlo1 b hb; have := HM.out.lt b hm; omega)
  have hPM := hPF.1.putM (ho2.far (b := bT) (i := oT + k * 3 + 2) (u := .slice A1 (drB t.f M.mem).length c1) fun y hy => by have := hmid2 y hy; omega) (fun y hy hm => by
    have := hmid2 y hy
    rcases List.mem_cons.1 hm with h | h
    · omega
    · rcases List.mem_append.1 h with h | h
      · have := HM.out.lt y (by simp [h])
        omega
      · rcases hPF.2 y h with h | h
        · have := HM.out.lt y (by simp [h])
          omega
        · have := hmid1 y h
          omega)
  have HPF := Lib.hid hPF
  have HPM := Lib.hid hPM
  have HB1 := Lib.hid hb01
  have HLO := Lib.hid (And.intro hlo1 (And.intro hmid2 hmid))
  obtain ⟨m0, n0⟩ := hPF.1.box.at_ 0 (x := .slice Am M.mem.length cm) rfl
  have HM0 := Lib.hid (And.intro m0 n0)
  clear hPF hPM hb1 hM1 ho1 ho2 hlo1 m0 n0 hmid1 hmid2 hmid
  refine wpAnyX_one 20 rfl (by kernel_rfl) (by kernel_rfl) ?_
  go_wp2_with fail
  refine ⟨⟨fun _ => ⟨⟨_, (Only.of_below hb01 _).trans (Only.setCell _ _)⟩, rfl⟩, fun h => absurd (show true = false from h) (by decide)⟩, ?_⟩
  refine wpAnyX_pass (C := (fun _ => True)) none [false, false, false, false, false, false, false, false, false, false, false, false, false, false, false, false, false, false, false, false, false, true] rfl (by kernel_rfl) (fun _ _ t _ _ h => by cases t <;> exact h) ⟨fun _ => ⟨⟨_, (Only.of_below hb01 _).trans (Only.setCell _ _)⟩, rfl⟩, fun h => absurd (show true = false from h) (by decide)⟩ ?_
  simp only [keepOps]
  repeat (go_big_quiet_step (fail))
  refine wpQuiet_nil ?_
  obtain ⟨m0, n0⟩ := HM0.out
  refine wpAnyX_one 22 rfl (by kernel_rfl) (by kernel_rfl) ?_
  go_wp2_with fail
  refine ⟨⟨fun h => absurd (show true = false from h) (by decide), fun h => absurd (show true = false from h) (by decide)⟩, ?_⟩
  refine wpAnyX_done (by kernel_rfl) ?_
  go_wp2_with fail
  go_end0
  refine eff_of HPM.out ((((Only.of_below HB.out _).trans (Only.of_below (HB1.out.mono (by have := HB.out.size; omega)) _)).trans ((Only.setCell _ _).mono fun b hb => by simp at hb; subst hb; simp [tblk])).trans ((Only.setCell _ _).mono fun b hb => by simp at hb; subst hb; simp)) (fun b hb => ?_) (Below.refl _ _)
  have hsz := HB.out.size
  rcases List.mem_cons.1 hb with h | h
  · exact .inl (by simp [h])
  · rcases List.mem_append.1 h with h | h
    · exact .inr (by have := HLO.out.2.1 b h; have := HLO.out.2.2; omega)
    · rcases HPF.out.2 b h with h | h
      · exact .inl (by simp [h])
      · exact .inr (by have := HLO.out.1 b h; omega)
set_option maxHeartbeats 3200000 in
theorem impl_drainAll (gm bT oT c k : Nat) (M : Ma) (t : Th) (L : List Nat) (w : World) (h : MBx w gm bT oT c M L) (ht : M.ths[k]? = some t) (hml : M.mem.length ≤ 16777215) :
    Calls Try.prog 90 #[coreV bT oT k gm] w (Eff ⟨daF t.f M.mem, M.ths.set k { t with f := [] }⟩ L gm bT oT c w) := by
  obtain ⟨mv, vs, qs, bm, hM, rfl⟩ := h
  have hb := (Below.refl w.heap.size w).alloc (Nat.le_refl _) (.cells #[.pointer (some ⟨bT, oT + k * 3, none⟩), .pointer (some ⟨gm, 0, none⟩)] 123)
  have k0 := Bk.new w #[.pointer (some ⟨bT, oT + k * 3, none⟩), .pointer (some ⟨gm, 0, none⟩)] 123
  obtain ⟨W0, hW0⟩ : ∃ W0, W0 = w.alloc (.cells #[.pointer (some ⟨bT, oT + k * 3, none⟩), .pointer (some ⟨gm, 0, none⟩)] 123) := ⟨_, rfl⟩
  rw [← hW0] at hb k0
  have hM0 := hM.below hb
  obtain ⟨a, f, qa, qb, hp, hq⟩ := hM0.ths.get ht
  obtain ⟨x0, x1, x2, g0, g1, g2⟩ := hM0.cells ht hp
  have lT : bT < W0.heap.size := hM0.lt bT (by simp [tblk])
  have lg : gm < W0.heap.size := hM0.lt gm (by simp)
  have lTw : bT < w.heap.size := hM.lt bT (by simp [tblk])
  have lgw : gm < w.heap.size := hM.lt gm (by simp)
  have lc := k0.lt
  have P0 := fun p : Past W0 => Past.cell lc (k0.at_ 0 (x := .pointer (some ⟨bT, oT + k * 3, none⟩)) rfl).1 p
  have P1 := fun p : Past W0 => Past.cell lc (k0.at_ 1 (x := .pointer (some ⟨gm, 0, none⟩)) rfl).1 p
  have P2 := fun p : Past W0 => Past.cell lT x2 p
  have P3 := fun p : Past W0 => Past.cell lg (hM0.box.at_ 0 (x := mv) rfl).1 p
  have HF := Lib.hid (hM0.ths.buf ht hp hq).rd
  have HMM := Lib.hid hM0.mem.rd
  have hmv := hM0.mem
  obtain ⟨Am, cm, rfl, -, -⟩ := hmv.slice
  have HB := Lib.hid hb
  have HM := Lib.hid hM0
  have HW := Lib.hid hW0
  have K0 := Lib.hid k0
  unfold coreV
  clear hb hW0 hM0 hM k0 x0 x1 x2 g0 g1 g2 hmv
  go_enter Try.func90, Try.ntmps90
  go_wp2_with fail
  rw [← HW.out]
  refine wp_region_two 16 16 (fun w' => ∃ p : Past W0, w' = p.v) (fun _ => True) (by kernel_rfl) ?_
  refine wpAnyX_pass (C := (fun w' => ∃ p : Past W0, w' = p.v)) (some false) [true, true, true, true, true, true, true, true, true, true, true] rfl (by kernel_rfl) (fun _ _ t _ _ h => by cases t <;> exact h) ⟨fun _ => ⟨⟨W0.drew, (Below.refl _ _).drew⟩, rfl⟩, fun _ => trivial⟩ ?_
  simp only [keepOps]
  repeat (go_big_quiet_step (fail))
  refine wpQuiet_nil ?_
  clear P0 P1 P2 P3
  refine wpAnyX_one 11 rfl (by kernel_rfl) (by kernel_rfl) ?_
  go_wp2_with fail
  refine (impl_DrainAll f _ t.f M.mem _ (HF.out.below (Below.refl _ _).drew) (HMM.out.below (Below.refl _ _).drew) hml).mono ?_
  rintro e w1 ⟨m', bm', rfl, ho2, hlo2', hb1⟩
  have hlo2 : ∀ b ∈ bm', W0.heap.size ≤ b := hlo2'
  clear hlo2'
  obtain ⟨A2, c2, rfl, -, -⟩ := ho2.slice
  have hb01 := (Below.refl W0.heap.size W0).drew.trans hb1
  go_wp2_with fail
  refine ⟨⟨fun _ => ⟨⟨w1, hb01⟩, rfl⟩, fun _ => trivial⟩, ?_⟩
  refine wpAnyX_pass (C := (fun _ => True)) none [false, false, false, false, false, false, false, false, false, false, false, false, true, true, true, true] rfl (by kernel_rfl) (fun _ _ t _ _ h => by cases t <;> exact h) ⟨fun _ => ⟨⟨w1, hb01⟩, rfl⟩, fun _ => trivial⟩ ?_
  simp only [keepOps]
  repeat (go_big_quiet_step (fail))
  refine wpQuiet_nil ?_
  have hM1 := HM.out.below hb01
  have hPM := hM1.putM ho2 (fun y hy hm => by have := hlo2 y hy; have := HM.out.lt y hm; omega)
  have hPF := hPM.putF (x := []) (qb' := []) ht hp hq (Own.nil _ 2) (by simp)
  obtain ⟨m0, n0⟩ := hM1.box.at_ 0 (x := .slice Am M.mem.length cm) rfl
  obtain ⟨-, -, x2, -, -, g2⟩ := hPM.cells ht hp
  have k1 := (K0.out.below hb01 K0.out.lt).far (p := ⟨gm, 0, none⟩) (by show w.heap.size ≠ gm; omega) (.slice A2 (daF t.f M.mem).length c2)
  obtain ⟨p0, -⟩ := k1.at_ 0 (x := .pointer (some ⟨bT, oT + k * 3, none⟩)) rfl
  have HPF := Lib.hid hPF
  have HB1 := Lib.hid hb01
  have HLO := Lib.hid hlo2
  clear hPF hPM hb1 hM1 ho2 hlo2 k1
  refine wpAnyX_one 16 rfl (by kernel_rfl) (by kernel_rfl) ?_
  go_wp2_with fail
  refine ⟨⟨fun h => absurd (show true = false from h) (by decide), fun _ => trivial⟩, ?_⟩
  refine wpAnyX_done (by kernel_rfl) ?_
  go_wp2_with fail
  go_end0
  refine eff_of HPF.out.1 ((((Only.of_below HB.out _).trans (Only.of_below (HB1.out.mono (by have := HB.out.size; omega)) _)).trans ((Only.setCell _ _).mono fun b hb => by simp at hb; subst hb; simp)).trans ((Only.setCell _ _).mono fun b hb => by simp at hb; subst hb; simp [tblk])) (fun b hb => ?_) (Below.refl _ _)
  have hsz := HB.out.size
  rcases List.mem_cons.1 hb with h | h
  · exact .inl (by simp [h])
  · rcases List.mem_append.1 h with h | h
    · exact .inr (by have := HLO.out b h; omega)
    · rcases HPF.out.2 b h with h | h
      · exact .inl (by simp [h])
      · simp at h
end Go.Proofs.Ytiflooopfpcelaa
