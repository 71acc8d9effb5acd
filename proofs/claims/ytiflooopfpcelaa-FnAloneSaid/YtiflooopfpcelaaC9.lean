/- Contract of impl.Start. Condition: the program can be read; its number of cells is a 64-bit integer. -/
import Derived.Test.YtiflooopfpcelaaV4
import Derived.Test.YtiflooopfpcelaaM5
import Derived.Test.YtiflooopfpcelaaI2
namespace Go.Proofs.Ytiflooopfpcelaa
set_option maxRecDepth 20000
set_option linter.unusedSimpArgs false
set_option linter.unusedVariables false
open Go.ChangeShapes Go.WideShapes Go.ChangeAt Go.RowKit
def z4 : Th := ⟨0, [0, 0, 0, 0], []⟩
def startF (p : Pr) : Ma := if progOkF p then ⟨newF p.c, List.replicate p.x.length z4⟩ else ⟨[], []⟩
/-- returns a machine of its own and a bool -/
def RetMaB (M : Ma) (ok : Bool) (w : World) (e : Ending) (w' : World) : Prop :=
  ∃ mv tv bs, e = .returned (.tuple #[.agg #[mv, tv], .bool ok]) ∧ OwnMa w' mv tv M bs ∧ (∀ b ∈ bs, w.heap.size ≤ b) ∧ Below w.heap.size w w'
theorem OwnTS.zero (w : World) : OwnTS w (.slice none 0 0) [] [] :=
  ⟨[], [], [], rfl, rfl, OwnR.cons (Own.nil w 3) (OwnR.nil w) (by simp), rfl⟩
theorem OwnMa.zero (w : World) : OwnMa w (.slice none 0 0) (.slice none 0 0) ⟨[], []⟩ [] := ⟨[], [], Own.nil w 1, OwnTS.zero w, by simp, rfl⟩
theorem newF_ok {p : Pr} (h : progOkF p = true) : newF p.c = List.replicate p.c.toNat 0 ∧ (newF p.c).length ≤ 16 := by
  have := progOk_len h
  have e : inB p.c 1 16 = true := by simp [inB]; omega
  have h2 : newF p.c = List.replicate p.c.toNat 0 := by simp [newF, e]
  exact ⟨h2, by rw [h2, List.length_replicate]; omega⟩
theorem startF_tot (p : Pr) : totMa (startF p) ≤ 40 := by
  unfold startF
  split
  · rename_i h
    have h1 := progOk_len h
    have h2 := (newF_ok h).2
    have h3 : ((List.replicate p.x.length z4).map totTh).sum = p.x.length * 4 := by
      rw [List.map_replicate, List.sum_replicate_nat]
      rfl
    simp only [totMa, totTS, List.length_replicate, h3]
    omega
  · simp [totMa, totTS]
theorem thPart_setV {ths : List Th} {vs : List (Value × Value)} {k : Nat} {t : Th} {a : Value} (hl : vs.length = k) (h : ths[k]? = some t) (hp : t.pc = 0) :
    (thPart ths vs k).set (k * 3 + 1) a = thPart ths (vs ++ [(a, .slice none 0 0)]) (k + 1) := by
  rw [← thPart_set (a := a) (b := .slice none 0 0) hl h, hp]
  obtain ⟨h0, h1, h2⟩ := thPart_at hl (List.getElem?_eq_some_iff.1 h).1
  rw [set_same h0]
  refine (set_same ?_).symm
  rw [List.getElem?_set_ne (by omega)]
  exact h2
/-- a list of threads that has been built row by row is owned whole -/
theorem ts_of_part {w : World} {base g n c : Nat} {ths : List Th} {vs : List (Value × Value)} {qs : List (List Nat × List Nat)} (hO : w.ownsRow base 71 3 (.slice (some ⟨g, 0, none⟩) n c) ths.length (thPart ths vs ths.length))
    (hv : vs.length = ths.length) (hq : qs.length = ths.length) (hR : OwnR w (thRows ths vs qs)) (hB : ∀ b ∈ blks (thRows ths vs qs), base ≤ b) (hg : ∀ b ∈ blks (thRows ths vs qs), b ≠ g) :
    ∃ bs, OwnTS w (.slice (some ⟨g, 0, none⟩) n c) ths bs ∧ ∀ b ∈ bs, base ≤ b := by
  rw [thPart_all] at hO
  obtain ⟨b0, h1, h2⟩ := Own.of_owns hO
  refine ⟨_, ⟨vs, qs, b0, hv, hq, OwnR.cons h1 hR fun b hb hm => hg b hm (h1.blk b hb), rfl⟩, fun b hb => ?_⟩
  rw [blks_cons] at hb
  rcases List.mem_append.1 hb with hb | hb
  · exact h2 b hb
  · exact hB b hb
set_option maxHeartbeats 3200000 in
theorem impl_Start (v : Value) (p : Pr) (w : World) (h : RdSS w v p.x) (hw : (Lit.int .i64 p.c).wf = true) :
    Calls Try.prog 20 #[.agg #[.int .i64 p.c, v]] w (RetMaB (startF p) (progOkF p) w) := by
  obtain ⟨vs, ⟨A, c, rfl, -, hnc, hc, hr⟩, hin⟩ := id h
  unfold maxLen at hc
  have hB0 := ((Below.refl w.heap.size w).alloc (Nat.le_refl _) (.cells #[.int .i64 p.c, .slice A p.x.length c] 36)).alloc (by simp) (.cells #[.slice none 0 0, .slice none 0 0] 41)
  have k0 := (Bk.new w #[.int .i64 p.c, .slice A p.x.length c] 36).alloc (.cells #[.slice none 0 0, .slice none 0 0] 41)
  have k1 := Bk.new (w.alloc (.cells #[.int .i64 p.c, .slice A p.x.length c] 36)) #[.slice none 0 0, .slice none 0 0] 41
  simp only [World.size_alloc] at k1
  have hC := impl_ProgOk _ p _ (h.below hB0)
  have HB0 := Lib.hid hB0
  clear hB0 hr hin
  cases hok : progOkF p
  · rw [hok] at hC
    have HC := Lib.hid hC
    have HF : Hid (startF p = ⟨[], []⟩) := Lib.hid (by simp [startF, hok])
    clear hC hok
    go_enter Try.func20, Try.ntmps20
    go_wp2_with fail
    refine HC.out.mono ?_
    rintro e w1 ⟨rfl, hb1⟩
    have K1 := k1.below hb1 k1.lt
    have K2 := K1.set_ 0 (.slice none 0 0)
    have K3 := K2.set_ 1 (.slice none 0 0)
    obtain ⟨y0, z0⟩ := K1.at_ 0 (x := .slice none 0 0) rfl
    obtain ⟨y1, z1⟩ := K2.at_ 1 (x := .slice none 0 0) rfl
    obtain ⟨r0, -⟩ := K3.at_ 0 (x := .slice none 0 0) rfl
    obtain ⟨r1, -⟩ := K3.at_ 1 (x := .slice none 0 0) rfl
    have HB1 := Lib.hid (HB0.out.trans (hb1.mono HB0.out.size))
    clear hb1
    go_wp2_with fail
    exact bodyPost_ret (v := .tuple #[.agg #[.slice none 0 0, .slice none 0 0], .bool false]) (by simp [results, Try.results20, go_sem, r0, r1]) rfl
      ⟨_, _, [], rfl, by rw [HF.out]; exact OwnMa.zero _, by simp, (HB1.out.setCell (Nat.le_succ _) _).setCell (Nat.le_succ _) _⟩
  rw [hok] at hC
  have HC := Lib.hid hC
  obtain ⟨hpl1, hpl2, hpl3, hpl4⟩ := progOk_len hok
  have hI : inB p.c 1 16 = true := by simp [inB]; omega
  have hN := fun W : World => impl_NewMem p.c W hw
  rw [hI] at hN
  have HNM := Lib.hid hN
  have hnl := (newF_ok hok).2
  obtain ⟨ths, hths⟩ : ∃ ths, List.replicate p.x.length z4 = ths := ⟨_, rfl⟩
  have hthl : ths.length = p.x.length := by rw [← hths, List.length_replicate]
  have HZ : Hid (∀ k, k < ths.length → ths[k]? = some z4) := Lib.hid fun k hk => by
    rw [← hths] at hk ⊢
    rw [List.length_replicate] at hk
    rw [List.getElem?_replicate, if_pos hk]
  have HF : Hid (startF p = ⟨newF p.c, ths⟩) := Lib.hid (by simp [startF, hok, hths])
  obtain ⟨i, hi, hz0, hz1, hz2⟩ := info_parts infoTh
  obtain ⟨j, hj, hj0, hj1, hj2⟩ := info_parts infoInt
  have hth' : ths.length ≤ p.x.length ∧ p.x.length ≤ ths.length := by omega
  have HTL := Lib.hid hthl
  clear hC hok hN hI hths hthl
  go_enter Try.func20, Try.ntmps20
  go_wp2_with fail
  refine HC.out.mono ?_
  rintro e w1 ⟨rfl, hb1⟩
  have hB1 := HB0.out.trans (hb1.mono HB0.out.size)
  have K0 := k0.below hb1 k0.lt
  have K1 := k1.below hb1 k1.lt
  obtain ⟨y0, -⟩ := K0.at_ 0 (x := .int .i64 p.c) rfl
  have HB1 := Lib.hid hB1
  clear hB1 hb1 k0 k1
  go_wp2_with fail
  refine (HNM.out _).mono ?_
  rintro e w2 ⟨v2, bs2, rfl, ho2, hlo2, hb2⟩
  have hB2 := HB1.out.trans (hb2.mono HB1.out.size)
  have Q0 := K0.below hb2 K0.lt
  have Q1 := K1.below hb2 K1.lt
  obtain ⟨A2, c2, rfl, -, -⟩ := ho2.slice
  have l2 := ho2.lt
  have hla := (Below.refl w2.heap.size w2).alloc (Nat.le_refl _) (.cells #[.slice A2 (newF p.c).length c2] 38)
  have R0 := Q0.alloc (.cells #[.slice A2 (newF p.c).length c2] 38)
  have R1 := Q1.alloc (.cells #[.slice A2 (newF p.c).length c2] 38)
  have R2 := Bk.new w2 #[.slice A2 (newF p.c).length c2] 38
  have hO2 := ho2.below hla
  have hB3 := hB2.alloc hB2.size (.cells #[.slice A2 (newF p.c).length c2] 38)
  have hlo2' : ∀ b ∈ bs2, w.heap.size ≤ b := fun b hb => Nat.le_trans HB1.out.size (hlo2 b hb)
  obtain ⟨y1, -⟩ := R0.at_ 1 (x := .slice A p.x.length c) rfl
  obtain ⟨W3, hW3⟩ : ∃ W3, W3 = w2.alloc (.cells #[.slice A2 (newF p.c).length c2] 38) := ⟨_, rfl⟩
  rw [← hW3] at R0 R1 R2 hO2 hB3
  have hs3 : W3.heap.size = w2.heap.size + 1 := by rw [hW3]; simp
  have hq1 := Q1.lt
  have HW3 := Lib.hid hW3
  have HS3 := Lib.hid hs3
  clear hW3 hs3 hla hB2 ho2 Q0 Q1 hb2 HB1 y0
  go_wp2_with (at_make; rw [← HW3.out]; refine wpList_make_full _ rfl _ _ 39 rfl W3.heap.size 71 i (.agg #[.int .i64 0, .slice none 0 0, .slice none 0 0]) 3 Try.underlying39 hi hz0 hz1 _ _ _ _ p.x.length rfl rfl rfl rfl (by rw [hz2]; omega) (by unfold maxLen; omega) (Nat.le_refl _) ?_)
  intro w3 hown hg3
  rw [zTh_made] at hown
  have hB4 := hB3.grown hg3 hB3.size (by simp)
  have hW := (Below.refl W3.heap.size W3).grown hg3 (Nat.le_refl _) (by simp)
  have R0' := R0.below hW R0.lt
  have R1' := R1.below hW R1.lt
  have R2' := R2.below hW R2.lt
  have hO2' := hO2.below hW
  have hlg : W3.heap.size < w3.heap.size := (hown.lt _ rfl).2
  have l3 := R2.lt
  clear R0 R1 R2 hO2 hB3 hg3 y1 hW
  rw [show p.x.length = ths.length from HTL.out.symm] at hown
  obtain ⟨g, hg⟩ : ∃ g, W3.heap.size = g := ⟨_, rfl⟩
  rw [hg] at hown hlg l3
  have hgw : w.heap.size + 1 < g ∧ w2.heap.size < g := by have := HS3.out; omega
  have hgb : w.heap.size ≤ g := by omega
  have HG := Lib.hid hg
  rw [← HTL.out, hg]
  clear hg
  go_wp2_with fail
  go_loopw [24] (fun l wr => ∃ (k : Nat) (vs : List (Value × Value)) (qs : List (List Nat × List Nat)), k ≤ ths.length ∧ l = .int .i64 k ∧ Hid (vs.length = k ∧ qs.length = k) ∧
    wr.ownsRow g 71 3 (.slice (some ⟨g, 0, none⟩) ths.length ths.length) ths.length (thPart ths vs k) ∧ OwnR wr (thRows (ths.take k) vs qs) ∧ Hid (∀ b ∈ blks (thRows (ths.take k) vs qs), g + 1 ≤ b) ∧
    Below w.heap.size w wr ∧ g < wr.heap.size ∧ Bk wr (w.heap.size + 1) #[.slice none 0 0, .slice none 0 0] 41 ∧ Bk wr w2.heap.size #[.slice A2 (newF p.c).length c2] 38 ∧ Own wr (.slice A2 (newF p.c).length c2) 1 (newF p.c).length (ints (newF p.c)) bs2) (fun l _ => ths.length - (intOf l).toNat)
  case atStart => exact ⟨0, [], [], Nat.zero_le _, rfl, Lib.hid ⟨rfl, rfl⟩, by simpa [thPart, thCs] using hown, by simpa [thRows] using OwnR.nil w3, Lib.hid (by simp [thRows, blks]), hB4, hlg, R1', R2', hO2'⟩
  case round =>
    obtain ⟨k, vs, qs, hk, rfl, HL, hO, hI, HBS, hB, hlt1, q1, q2, hM⟩ := hrel
    clear hown hB4 hlg R1' R2' hO2' R0'
    by_cases hlt : k < ths.length
    · have hx := HZ.out k hlt
      obtain ⟨p0, p1, p2⟩ := thPart_at (ths := ths) HL.out.1 hlt
      go_wp2_with (at_make; refine wpList_make_full _ rfl _ _ 25 rfl wr.heap.size 3 j (.int .i64 0) 1 Try.underlying25 hj hj0 hj1 _ _ _ _ 4 rfl rfl rfl rfl (by rw [hj2]; omega) (by unfold maxLen; omega) (Nat.le_refl _) ?_)
      intro w5 hown5 hg5
      rw [toList_madeCells_one] at hown5
      have hW5 := (Below.refl wr.heap.size wr).grown hg5 (Nat.le_refl _) (by simp)
      have hB5 := hB.trans (hW5.mono hB.size)
      have hO5 := ownsRow_below hO hW5
      have hI5 := hI.below hW5
      have q15 := q1.below hW5 q1.lt
      have q25 := q2.below hW5 q2.lt
      have hM5 := hM.below hW5
      obtain ⟨b5, hv5, hl5⟩ := Own.of_owns hown5
      have hv5' : Own w5 (.slice (some ⟨wr.heap.size, 0, none⟩) 4 4) 1 z4.v.length (ints z4.v) b5 := hv5
      have hilt := hI.lt
      have hc0 := (hO5.cellAt (k * 3 + 1) (by omega)).trans p1
      have hf0 := hO5.frozenAt (k * 3 + 1)
      have hO6 := (hO5.stored (k * 3 + 1) (.slice (some ⟨wr.heap.size, 0, none⟩) 4 4)).1
      rw [thPart_setV HL.out.1 hx rfl] at hO6
      have hv' : vs.length = (ths.take k).length := by rw [List.length_take, HL.out.1]; omega
      have hq' : qs.length = (ths.take k).length := by rw [List.length_take, HL.out.2]; omega
      have hI6 := rows_snoc (t := z4) (bb := []) hv' hq' hI5 hv5' (Own.nil w5 2) (by simp) (fun x hx hm => by have := hl5 x hx; have := hilt x hm; omega) (by simp)
      have hBS6 := blks_snoc (t := z4) (a := .slice (some ⟨wr.heap.size, 0, none⟩) 4 4) (b := .slice none 0 0) (bb := []) hv' hq' HBS.out (fun x hx => by have := hl5 x hx; show g + 1 ≤ x; omega) (by simp)
      rw [← take_succ_at hx] at hI6 hBS6
      have hI7 := hI6.far (b := g) (k := k * 3 + 1) (u := .slice (some ⟨wr.heap.size, 0, none⟩) 4 4) fun x hx => by have := hBS6 x hx; omega
      have q16 := q15.far (p := ⟨g, k * 3 + 1, none⟩) (by show w.heap.size + 1 ≠ g; omega) (.slice (some ⟨wr.heap.size, 0, none⟩) 4 4)
      have q26 := q25.far (p := ⟨g, k * 3 + 1, none⟩) (by show w2.heap.size ≠ g; omega) (.slice (some ⟨wr.heap.size, 0, none⟩) 4 4)
      have hM6 := hM5.far (b := g) (i := k * 3 + 1) (u := .slice (some ⟨wr.heap.size, 0, none⟩) 4 4) fun x hx => by have := l2 x hx; omega
      have HBS6 := Lib.hid hBS6
      have hsz5 := hW5.size
      clear hBS6 hI6 hI5 hv' hq' p0 p1 p2 hilt hM5 q15 q25 hv5 hv5' hown5 hg5 hO hI hM hB q1 q2 hW5
      go_wp2_with fail
      exact ⟨⟨k + 1, _, _, by omega, by go_num, Lib.hid ⟨by simp [HL.out.1], by simp [HL.out.2]⟩, hO6, hI7, HBS6, hB5.setCell hgb _, by simp [World.setCell]; omega, q16, q26, hM6⟩, by simp [intOf]; omega⟩
    · obtain rfl : k = ths.length := by omega
      rw [List.take_length] at hI HBS
      obtain ⟨bt, hT, hbt⟩ := ts_of_part hO HL.out.1 HL.out.2 hI (fun b hb => by have := HBS.out b hb; omega) (fun b hb => by have := HBS.out b hb; omega)
      obtain ⟨x0, e0⟩ := q1.at_ 0 (x := .slice none 0 0) rfl
      have q1a := q1.set_ 0 (.slice A2 (newF p.c).length c2)
      obtain ⟨x1, e1⟩ := q1a.at_ 1 (x := .slice none 0 0) rfl
      have q1b := q1a.set_ 1 (.slice (some ⟨g, 0, none⟩) ths.length ths.length)
      obtain ⟨r0, -⟩ := q1b.at_ 0 (x := .slice A2 (newF p.c).length c2) rfl
      obtain ⟨r1, -⟩ := q1b.at_ 1 (x := .slice (some ⟨g, 0, none⟩) ths.length ths.length) rfl
      obtain ⟨m0, -⟩ := q2.at_ 0 (x := .slice A2 (newF p.c).length c2) rfl
      have hMa := OwnMa.mk (M := ⟨newF p.c, ths⟩) hM hT (fun b hb hm => by have := l2 b hb; have := hbt b hm; omega)
      have hMf := (hMa.far (b := w.heap.size + 1) (k := 0) (u := .slice A2 (newF p.c).length c2) (fun b hb => by
        rcases List.mem_append.1 hb with hb | hb
        · have := hlo2 b hb
          have := K1.lt
          omega
        · have := hbt b hb
          omega)).far (b := w.heap.size + 1) (k := 1) (u := .slice (some ⟨g, 0, none⟩) ths.length ths.length) (fun b hb => by
        rcases List.mem_append.1 hb with hb | hb
        · have := hlo2 b hb
          have := K1.lt
          omega
        · have := hbt b hb
          omega)
      have HMf := Lib.hid hMf
      have hbt' : ∀ b ∈ bs2 ++ bt, w.heap.size ≤ b := fun b hb => by
        rcases List.mem_append.1 hb with hb | hb
        · exact hlo2' b hb
        · have := hbt b hb
          omega
      have HBT := Lib.hid hbt'
      clear hMa hMf hM hT hI hO q2 hbt'
      go_wp2_with fail
      exact bodyPost_ret (v := .tuple #[.agg #[.slice A2 (newF p.c).length c2, .slice (some ⟨g, 0, none⟩) ths.length ths.length], .bool true]) (by simp [results, Try.results20, go_sem, r0, r1]) rfl
        ⟨_, _, bs2 ++ bt, rfl, by rw [HF.out]; exact HMf.out, HBT.out, (hB.setCell (Nat.le_succ _) _).setCell (Nat.le_succ _) _⟩
end Go.Proofs.Ytiflooopfpcelaa
