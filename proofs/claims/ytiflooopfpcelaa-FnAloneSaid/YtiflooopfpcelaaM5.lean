/- Contracts of the laws' helpers that copy threads and machines. Condition: the size that the law bounds. -/
import Derived.Test.YtiflooopfpcelaaM4
namespace Go.Proofs.Ytiflooopfpcelaa
set_option maxRecDepth 20000
set_option linter.unusedSimpArgs false
set_option linter.unusedVariables false
open Go.ChangeShapes Go.WideShapes Go.ChangeAt Go.RowKit
/-- returns a thread of its own -/
def RetTh (t : Th) (w : World) (e : Ending) (w' : World) : Prop :=
  ∃ a b ba bb, e = .returned (.agg #[.int .i64 t.pc, a, b]) ∧ Own w' a 1 t.v.length (ints t.v) ba ∧ Own w' b 2 t.f.length (flc2 t.f) bb ∧ (∀ x ∈ ba, w.heap.size ≤ x) ∧ (∀ x ∈ bb, w.heap.size ≤ x) ∧ (∀ x ∈ ba, x ∉ bb) ∧ Below w.heap.size w w'
set_option maxHeartbeats 1600000 in
theorem toThread (t : Th) (a b : Value) (w : World) (ha : RdA w a 1 t.v.length (ints t.v)) (hb : RdA w b 2 t.f.length (flc2 t.f)) (hsz : totTh t ≤ 1048576) :
    Calls Try.prog 101 #[.agg #[.int .i64 t.pc, a, b]] w (RetTh t w) := by
  obtain ⟨A, c, rfl, -, -, -, -⟩ := id ha
  obtain ⟨B, d, rfl, -, -, -, -⟩ := id hb
  have hsv : t.v.length ≤ 1048576 := by unfold totTh at hsz; omega
  have hsf : t.f.length ≤ 1048576 := by unfold totTh at hsz; omega
  go_enter Try.func101, Try.ntmps101
  go_wp2_with fail
  refine (toIntS _ t.v _ (ha.below ((((Below.refl _ _).alloc (Nat.le_refl _) _).alloc (by simp) _).alloc (by simp; omega) _)) hsv).mono ?_
  rintro e w1 ⟨v1, bs1, rfl, ho1, hbs1, hb1⟩
  obtain ⟨A1, c1, rfl, hcc1, hcm1⟩ := ho1.slice
  have k1 := (((Bk.new w #[.int .i64 t.pc, .slice A t.v.length c, .slice B t.f.length d] 139).alloc (.cells #[.int .i64 0, .slice none 0 0, .slice none 0 0] 71)).alloc (.cells #[.int .i64 t.pc, .slice none 0 0, .slice none 0 0] 71)).below hb1 (by simp; omega)
  have k2 := ((Bk.new (w.alloc (.cells #[.int .i64 t.pc, .slice A t.v.length c, .slice B t.f.length d] 139)) #[.int .i64 0, .slice none 0 0, .slice none 0 0] 71).alloc (.cells #[.int .i64 t.pc, .slice none 0 0, .slice none 0 0] 71)).below hb1 (by simp)
  have k3 := (Bk.new ((w.alloc (.cells #[.int .i64 t.pc, .slice A t.v.length c, .slice B t.f.length d] 139)).alloc (.cells #[.int .i64 0, .slice none 0 0, .slice none 0 0] 71)) #[.int .i64 t.pc, .slice none 0 0, .slice none 0 0] 71).below hb1 (by simp)
  have hB1 := ((((Below.refl w.heap.size w).alloc (Nat.le_refl _) (.cells #[.int .i64 t.pc, .slice A t.v.length c, .slice B t.f.length d] 139)).alloc (by simp) (.cells #[.int .i64 0, .slice none 0 0, .slice none 0 0] 71)).alloc (by simp; omega) (.cells #[.int .i64 t.pc, .slice none 0 0, .slice none 0 0] 71)).trans (hb1.mono (by simp; omega))
  simp only [World.size_alloc] at k2 k3
  simp only [World.size_alloc] at hbs1
  have k3' := k3.set_ 1 (.slice A1 t.v.length c1)
  have k1' := k1.far (p := ⟨w.heap.size + 1 + 1, 1, none⟩) (by simp; omega) (.slice A1 t.v.length c1)
  have k2' := k2.far (p := ⟨w.heap.size + 1 + 1, 1, none⟩) (by simp) (.slice A1 t.v.length c1)
  have ho1' := ho1.far (b := w.heap.size + 1 + 1) (i := 1) (u := .slice A1 t.v.length c1) fun k hk => by have := hbs1 k hk; omega
  have hB1' := hB1.setCell (p := ⟨w.heap.size + 1 + 1, 1, none⟩) (by show w.heap.size ≤ w.heap.size + 1 + 1; omega) (.slice A1 t.v.length c1)
  obtain ⟨hc1, hf1⟩ := k1'.at_ 2 (x := .slice B t.f.length d) rfl
  obtain ⟨hc3, hf3⟩ := k3.at_ 1 (x := .slice none 0 0) rfl
  have HB1 := Lib.hid hB1'
  have hi1 := ho1'.lt
  clear hB1 hB1' hb1 ho1
  go_wp2_with fail
  refine (toSlotS _ t.f _ (hb.below HB1.out) hsf).mono ?_
  rintro e w2 ⟨v2, bs2, rfl, ho2, hbs2, hb2⟩
  obtain ⟨A2, c2, rfl, hcc2, hcm2⟩ := ho2.slice
  have q3 := k3'.below hb2 k3'.lt
  have q2 := k2'.below hb2 k2'.lt
  have hO1 := ho1'.below hb2
  have hB2 := HB1.out.trans (hb2.mono HB1.out.size)
  have hsz2 := k3'.lt
  simp only [World.setCell, Array.size_modify] at hbs2 hsz2 hi1
  have q3' := q3.set_ 2 (.slice A2 t.f.length c2)
  have q2' := q2.far (p := ⟨w.heap.size + 1 + 1, 2, none⟩) (by simp) (.slice A2 t.f.length c2)
  have q2a := q2'.set_ 0 (.int .i64 t.pc)
  have q2b := q2a.set_ 1 (.slice A1 t.v.length c1)
  have q2c := q2b.set_ 2 (.slice A2 t.f.length c2)
  obtain ⟨hd2, he2⟩ := q3.at_ 2 (x := .slice none 0 0) rfl
  obtain ⟨hd30, he30⟩ := q3'.at_ 0 (x := .int .i64 t.pc) rfl
  obtain ⟨hd31, he31⟩ := q3'.at_ 1 (x := .slice A1 t.v.length c1) rfl
  obtain ⟨hd32, he32⟩ := q3'.at_ 2 (x := .slice A2 t.f.length c2) rfl
  obtain ⟨hd20, he20⟩ := q2'.at_ 0 (x := .int .i64 0) rfl
  obtain ⟨hd21, he21⟩ := q2a.at_ 1 (x := .slice none 0 0) rfl
  obtain ⟨hd22, he22⟩ := q2b.at_ 2 (x := .slice none 0 0) rfl
  obtain ⟨z0, -⟩ := q2c.at_ 0 (x := .int .i64 t.pc) rfl
  obtain ⟨z1, -⟩ := q2c.at_ 1 (x := .slice A1 t.v.length c1) rfl
  obtain ⟨z2, -⟩ := q2c.at_ 2 (x := .slice A2 t.f.length c2) rfl
  clear hb2 HB1
  have HB2 := Lib.hid hB2
  clear hB2
  go_wp2_with fail
  refine bodyPost_ret (v := .agg #[.int .i64 t.pc, .slice A1 t.v.length c1, .slice A2 t.f.length c2]) (by simp [results, Try.results101, go_sem, z0, z1, z2]) rfl ⟨_, _, bs1, bs2, rfl, ?_, ?_, fun b hb => by have := hbs1 b hb; omega, fun b hb => by have := hbs2 b hb; omega, fun b hb hm => by have := hi1 b hb; have := hbs2 b hm; omega, ?_⟩
  · exact (((hO1.far fun k hk => by have := hbs1 k hk; omega).far fun k hk => by have := hbs1 k hk; omega).far fun k hk => by have := hbs1 k hk; omega).far fun k hk => by have := hbs1 k hk; omega
  · exact (((ho2.far fun k hk => by have := hbs2 k hk; omega).far fun k hk => by have := hbs2 k hk; omega).far fun k hk => by have := hbs2 k hk; omega).far fun k hk => by have := hbs2 k hk; omega
  · exact (((HB2.out.setCell (by show w.heap.size ≤ w.heap.size + 1 + 1; omega) _).setCell (Nat.le_succ _) _).setCell (Nat.le_succ _) _).setCell (Nat.le_succ _) _
def zTh : Nat → List Value
  | 0 => []
  | n + 1 => .int .i64 0 :: .slice none 0 0 :: .slice none 0 0 :: zTh n
theorem zTh_len : ∀ n, (zTh n).length = n * 3
  | 0 => rfl
  | n + 1 => by simp only [zTh, List.length_cons, zTh_len n]; omega
theorem zTh_at : ∀ (n j : Nat), j < n * 3 → (zTh n)[j]? = some (#[Value.int .i64 0, .slice none 0 0, .slice none 0 0][j % 3]!)
  | 0, j, h => by omega
  | n + 1, 0, h => rfl
  | n + 1, 1, h => rfl
  | n + 1, 2, h => rfl
  | n + 1, j + 3, h => by
    rw [show (j + 3) % 3 = j % 3 from by omega]
    exact zTh_at n j (by omega)
theorem zTh_made (n : Nat) : (madeCells #[.int .i64 0, .slice none 0 0, .slice none 0 0] (n * 3)).toList = zTh n := by
  apply List.ext_getElem?
  intro j
  by_cases hj : j < n * 3
  · rw [zTh_at n j hj]
    simp only [madeCells, Array.toList_map, List.getElem?_map, Array.toList_range, List.getElem?_range hj, Option.map_some]
    rfl
  · rw [List.getElem?_eq_none (l := zTh n) (by rw [zTh_len]; omega)]
    simp [madeCells, hj]
def thPart (ths : List Th) (vs : List (Value × Value)) (k : Nat) : List Value := thCs (ths.take k) vs ++ zTh (ths.length - k)
theorem thPart_at {ths : List Th} {vs : List (Value × Value)} {k : Nat} (hl : vs.length = k) (h : k < ths.length) :
    (thPart ths vs k)[k * 3]? = some (.int .i64 0) ∧ (thPart ths vs k)[k * 3 + 1]? = some (.slice none 0 0) ∧ (thPart ths vs k)[k * 3 + 2]? = some (.slice none 0 0) := by
  have hc : (thCs (ths.take k) vs).length = k * 3 := by rw [thCs_len (by rw [List.length_take]; omega), List.length_take]; omega
  unfold thPart
  rw [show ths.length - k = (ths.length - (k + 1)) + 1 from by omega, zTh]
  refine ⟨?_, ?_, ?_⟩
  all_goals
    rw [List.getElem?_append_right (by omega), hc]
    simp
theorem set3 {L R : List Value} {k : Nat} (a b c a' b' c' : Value) (hl : L.length = k * 3) :
    (((L ++ a :: b :: c :: R).set (k * 3) a').set (k * 3 + 1) b').set (k * 3 + 2) c' = L ++ a' :: b' :: c' :: R := by
  subst_vars
  rw [List.set_append, if_neg (by omega), List.set_append, if_neg (by omega), List.set_append, if_neg (by omega)]
  simp [hl, show k * 3 + 1 - k * 3 = 1 from by omega, show k * 3 + 2 - k * 3 = 2 from by omega]
theorem take_succ_at {α : Type} {xs : List α} {k : Nat} {x : α} (h : xs[k]? = some x) : xs.take (k + 1) = xs.take k ++ [x] := by
  rw [List.take_add_one, h]
  rfl
theorem thPart_set {ths : List Th} {vs : List (Value × Value)} {k : Nat} {t : Th} {a b : Value} (hl : vs.length = k) (h : ths[k]? = some t) :
    (((thPart ths vs k).set (k * 3) (.int .i64 t.pc)).set (k * 3 + 1) a).set (k * 3 + 2) b = thPart ths (vs ++ [(a, b)]) (k + 1) := by
  have hk := (List.getElem?_eq_some_iff.1 h).1
  have hv : vs.length = (ths.take k).length := by rw [List.length_take]; omega
  have hc : (thCs (ths.take k) vs).length = k * 3 := by rw [thCs_len hv, List.length_take]; omega
  unfold thPart
  rw [show ths.length - k = (ths.length - (k + 1)) + 1 from by omega, zTh, set3 _ _ _ _ _ _ hc, take_succ_at h, thCs_append hv, List.append_assoc]
  rfl
theorem thPart_all (ths : List Th) (vs : List (Value × Value)) : thPart ths vs ths.length = thCs ths vs := by simp [thPart, zTh]
theorem Own.blk {w : World} {g o n c s m : Nat} {cs : List Value} {bs : List Nat} (h : Own w (.slice (some ⟨g, o, none⟩) n c) s m cs bs) : ∀ b ∈ bs, b = g := by
  obtain ⟨A, c', he, hl, hc, hm, ⟨_, rfl⟩ | ⟨_, b, o', hA, rfl, hb, hat⟩⟩ := h
  · simp
  · injection he with h1
    rw [hA] at h1
    injection h1 with h1
    injection h1 with h1
    intro x hx
    simp at hx
    omega
/-- a new thread behind the others -/
theorem rows_snoc {w : World} {ts : List Th} {vs : List (Value × Value)} {qs : List (List Nat × List Nat)} {t : Th} {a b : Value} {ba bb : List Nat} (hv : vs.length = ts.length) (hq : qs.length = ts.length) (H : OwnR w (thRows ts vs qs))
    (ha : Own w a 1 t.v.length (ints t.v) ba) (hb : Own w b 2 t.f.length (flc2 t.f) bb) (hab : ∀ x ∈ ba, x ∉ bb) (h1 : ∀ x ∈ ba, x ∉ blks (thRows ts vs qs)) (h2 : ∀ x ∈ bb, x ∉ blks (thRows ts vs qs)) :
    OwnR w (thRows (ts ++ [t]) (vs ++ [(a, b)]) (qs ++ [(ba, bb)])) := by
  rw [thRows_append hv hq]
  refine H.app (OwnR.cons ha (OwnR.cons hb (OwnR.nil w) (by simp [blks, thRows])) ?_) ?_
  · intro x hx hm
    exact hab x hx (by simpa [blks, thRows, fRow] using hm)
  · intro x hx hm
    simp only [thRows, blks_cons, vRow, fRow, blks, List.flatMap_nil, List.append_nil] at hm
    rcases List.mem_append.1 hm with hm | hm
    · exact h1 x hm hx
    · exact h2 x (by simpa using hm) hx
theorem blks_snoc {ts : List Th} {vs : List (Value × Value)} {qs : List (List Nat × List Nat)} {t : Th} {a b : Value} {ba bb : List Nat} (hv : vs.length = ts.length) (hq : qs.length = ts.length) {B : Nat} (h : ∀ x ∈ blks (thRows ts vs qs), B ≤ x)
    (h1 : ∀ x ∈ ba, B ≤ x) (h2 : ∀ x ∈ bb, B ≤ x) : ∀ x ∈ blks (thRows (ts ++ [t]) (vs ++ [(a, b)]) (qs ++ [(ba, bb)])), B ≤ x := by
  rw [thRows_append hv hq, blks_append]
  intro x hx
  rcases List.mem_append.1 hx with hx | hx
  · exact h x hx
  · simp only [thRows, blks_cons, vRow, fRow, blks, List.flatMap_nil, List.append_nil] at hx
    rcases List.mem_append.1 hx with hx | hx
    · exact h1 x hx
    · exact h2 x (by simpa using hx)
theorem infoTh : (Try.prog.info? 71).map (fun i => (i.zero, i.size, i.bytes)) = some (some (.agg #[.int .i64 0, .slice none 0 0, .slice none 0 0]), 3, 56) := by kernel_rfl
/-- returns threads of its own -/
def RetTS (ths : List Th) (w : World) (e : Ending) (w' : World) : Prop :=
  ∃ v bs, e = .returned v ∧ OwnTS w' v ths bs ∧ (∀ b ∈ bs, w.heap.size ≤ b) ∧ Below w.heap.size w w'
set_option maxHeartbeats 1600000 in
theorem toThreadS (v : Value) (ths : List Th) (w : World) (h : RdATS w v ths) (hsz : totTS ths ≤ 1048576) :
    Calls Try.prog 58 #[v] w (RetTS ths w) := by
  obtain ⟨vs0, hvl, ⟨A, c, rfl, -, hnc, hc, hr⟩, hin⟩ := h
  unfold maxLen at hc
  have hn : ths.length ≤ 1048576 := by unfold totTS at hsz; omega
  obtain ⟨i, hi, hz0, hz1, hz2⟩ := info_parts infoTh
  go_enter Try.func58, Try.ntmps58
  go_wp2_with (at_make; refine wpList_make_full _ rfl _ _ 39 rfl w.heap.size 71 i (.agg #[.int .i64 0, .slice none 0 0, .slice none 0 0]) 3 Try.underlying39 hi hz0 hz1 _ _ _ _ ths.length rfl rfl rfl rfl (by rw [hz2]; omega) (by unfold maxLen; omega) (Nat.le_refl _) ?_)
  intro w1 hown hg1
  rw [zTh_made] at hown
  have hb1 : Below w.heap.size w w1 := (Below.refl _ _).grown hg1 (Nat.le_refl _) (by simp)
  have hlt0 : w.heap.size < w1.heap.size := (hown.lt _ rfl).2
  go_wp2_with fail
  go_loopw [4] (fun i wr => ∃ (k : Nat) (vs : List (Value × Value)) (qs : List (List Nat × List Nat)), k ≤ ths.length ∧ i = .int .i64 k ∧ Hid (vs.length = k ∧ qs.length = k) ∧
    wr.ownsRow w.heap.size 71 3 (.slice (some ⟨w.heap.size, 0, none⟩) ths.length ths.length) ths.length (thPart ths vs k) ∧ OwnR wr (thRows (ths.take k) vs qs) ∧ Hid (∀ b ∈ blks (thRows (ths.take k) vs qs), w.heap.size + 1 ≤ b) ∧
    Below w.heap.size w wr ∧ w.heap.size < wr.heap.size) (fun i _ => ths.length - (intOf i).toNat)
  case atStart => exact ⟨0, [], [], Nat.zero_le _, rfl, Lib.hid ⟨rfl, rfl⟩, by simpa [thPart, thCs] using hown, by simpa [thRows] using OwnR.nil w1, Lib.hid (by simp [thRows, blks]), hb1, hlt0⟩
  case round =>
    obtain ⟨k, vs, qs, hk, rfl, HL, hO, hI, HBS, hB, hlt1⟩ := hrel
    clear hown hb1 hg1 hlt0
    by_cases hlt : k < ths.length
    · obtain ⟨ad, rfl, hb, hcell⟩ := hr (by omega)
      obtain ⟨t, a, b, HX, HP, hx0, hx1, hx2⟩ := th_atA hvl hcell hlt hB hb
      obtain ⟨ra, rb⟩ := hin k t (a, b) HX.out HP.out
      have hxl : totTh t ≤ 1048576 := by have := totTS_mem HX.out; omega
      have ra' := ra.below hB
      have rb' := rb.below hB
      clear hcell hr hin ra rb HP
      obtain ⟨A1, d1, rfl, -, -, -, -⟩ := id ra'
      obtain ⟨A2, d2, rfl, -, -, -, -⟩ := id rb'
      go_wp2_with fail
      refine (toThread t _ _ _ ra' rb' hxl).mono ?_
      rintro e w2 ⟨v1, v2, bs1, bs2, rfl, ho1, ho2, hbs1, hbs2, hdis, hb2⟩
      obtain ⟨A3, c3, rfl, -, -⟩ := ho1.slice
      obtain ⟨A4, c4, rfl, -, -⟩ := ho2.slice
      have hO2 := ownsRow_below hO hb2
      have hI2 := hI.below hb2
      have hilt := hI.lt
      have hB2 := hB.trans (hb2.mono hB.size)
      obtain ⟨p0, p1, p2⟩ := thPart_at (ths := ths) HL.out.1 hlt
      have hc0 := (hO2.cellAt (k * 3) (by omega)).trans p0
      have hc1 := (hO2.cellAt (k * 3 + 1) (by omega)).trans p1
      have hc2 := (hO2.cellAt (k * 3 + 2) (by omega)).trans p2
      have hf0 := hO2.frozenAt (k * 3)
      have hf1 := hO2.frozenAt (k * 3 + 1)
      have hf2 := hO2.frozenAt (k * 3 + 2)
      have hO3 := (((hO2.stored (k * 3) (.int .i64 t.pc)).1.stored (k * 3 + 1) (.slice A3 t.v.length c3)).1.stored (k * 3 + 2) (.slice A4 t.f.length c4)).1
      rw [thPart_set HL.out.1 HX.out] at hO3
      have hv' : vs.length = (ths.take k).length := by rw [List.length_take, HL.out.1]; omega
      have hq' : qs.length = (ths.take k).length := by rw [List.length_take, HL.out.2]; omega
      have hI3 := rows_snoc hv' hq' hI2 ho1 ho2 hdis (fun x hx hm => by have := hbs1 x hx; have := hilt x hm; omega) (fun x hx hm => by have := hbs2 x hx; have := hilt x hm; omega)
      have hBS3 := blks_snoc (t := t) (a := .slice A3 t.v.length c3) (b := .slice A4 t.f.length c4) hv' hq' HBS.out (fun x hx => by have := hbs1 x hx; show w.heap.size + 1 ≤ x; omega) (fun x hx => by have := hbs2 x hx; show w.heap.size + 1 ≤ x; omega)
      rw [← take_succ_at HX.out] at hI3 hBS3
      have hI4 := ((hI3.far (b := w.heap.size) (k := k * 3) (u := .int .i64 t.pc) fun x hx => by have := hBS3 x hx; omega).far (b := w.heap.size) (k := k * 3 + 1) (u := .slice A3 t.v.length c3) fun x hx => by have := hBS3 x hx; omega).far (b := w.heap.size) (k := k * 3 + 2) (u := .slice A4 t.f.length c4) fun x hx => by have := hBS3 x hx; omega
      have HBS3 := Lib.hid hBS3
      have hsz3 := hb2.size
      clear hBS3 hI3 hI2 hv' hq' p0 p1 p2 hilt hdis hbs1 hbs2 ho1 ho2
      go_wp2_with fail
      exact ⟨⟨k + 1, _, _, by omega, by go_num, Lib.hid ⟨by simp [HL.out.1], by simp [HL.out.2]⟩, hO3, hI4, HBS3, ((hB2.setCell (Nat.le_refl _) _).setCell (Nat.le_refl _) _).setCell (Nat.le_refl _) _, by simp [World.setCell]; omega⟩, by simp [intOf]; omega⟩
    · obtain rfl : k = ths.length := by omega
      go_wp2_with fail
      go_ret
      rw [thPart_all] at hO
      rw [List.take_length] at hI HBS
      obtain ⟨b0, h1, h2⟩ := Own.of_owns hO
      have h3 := h1.blk
      refine ⟨_, _, rfl, ⟨vs, qs, b0, HL.out.1, HL.out.2, OwnR.cons h1 hI fun b hb hm => ?_, rfl⟩, fun b hb => ?_, hB⟩
      · have := HBS.out b hm
        have := h3 b hb
        omega
      · rw [blks_cons] at hb
        rcases List.mem_append.1 hb with hb | hb
        · exact h2 b hb
        · have := HBS.out b hb
          omega
/-- returns a machine of its own -/
def RetMa (M : Ma) (w : World) (e : Ending) (w' : World) : Prop :=
  ∃ mv tv bs, e = .returned (.agg #[mv, tv]) ∧ OwnMa w' mv tv M bs ∧ (∀ b ∈ bs, w.heap.size ≤ b) ∧ Below w.heap.size w w'
theorem OwnMa.mk {w : World} {mv tv : Value} {M : Ma} {bm bt : List Nat} (h1 : Own w mv 1 M.mem.length (ints M.mem) bm) (h2 : OwnTS w tv M.ths bt) (h3 : ∀ b ∈ bm, b ∉ bt) : OwnMa w mv tv M (bm ++ bt) := ⟨bm, bt, h1, h2, h3, rfl⟩
set_option maxHeartbeats 1600000 in
theorem toMachine (mv tv : Value) (M : Ma) (w : World) (h : RdAMa w mv tv M) (hsz : totMa M ≤ 1048576) :
    Calls Try.prog 15 #[.agg #[mv, tv]] w (RetMa M w) := by
  obtain ⟨A, c, B, d, rfl, rfl⟩ := h.slices
  have hsm : M.mem.length ≤ 1048576 := by unfold totMa at hsz; omega
  have hst : totTS M.ths ≤ 1048576 := by unfold totMa at hsz; omega
  go_enter Try.func15, Try.ntmps15
  go_wp2_with fail
  refine (toMem _ M.mem _ (h.mem.below ((((Below.refl _ _).alloc (Nat.le_refl _) _).alloc (by simp) _).alloc (by simp; omega) _)) hsm).mono ?_
  rintro e w1 ⟨v1, bs1, rfl, ho1, hbs1, hb1⟩
  obtain ⟨A1, c1, rfl, hcc1, hcm1⟩ := ho1.slice
  have k1 := (((Bk.new w #[.slice A M.mem.length c, .slice B M.ths.length d] 30).alloc (.cells #[.slice none 0 0, .slice none 0 0] 41)).alloc (.cells #[.slice none 0 0, .slice none 0 0] 41)).below hb1 (by simp; omega)
  have k2 := ((Bk.new (w.alloc (.cells #[.slice A M.mem.length c, .slice B M.ths.length d] 30)) #[.slice none 0 0, .slice none 0 0] 41).alloc (.cells #[.slice none 0 0, .slice none 0 0] 41)).below hb1 (by simp)
  have k3 := (Bk.new ((w.alloc (.cells #[.slice A M.mem.length c, .slice B M.ths.length d] 30)).alloc (.cells #[.slice none 0 0, .slice none 0 0] 41)) #[.slice none 0 0, .slice none 0 0] 41).below hb1 (by simp)
  have hB1 := ((((Below.refl w.heap.size w).alloc (Nat.le_refl _) (.cells #[.slice A M.mem.length c, .slice B M.ths.length d] 30)).alloc (by simp) (.cells #[.slice none 0 0, .slice none 0 0] 41)).alloc (by simp; omega) (.cells #[.slice none 0 0, .slice none 0 0] 41)).trans (hb1.mono (by simp; omega))
  simp only [World.size_alloc] at k2 k3 hbs1
  have k3' := k3.set_ 0 (.slice A1 M.mem.length c1)
  have k1' := k1.far (p := ⟨w.heap.size + 1 + 1, 0, none⟩) (by simp; omega) (.slice A1 M.mem.length c1)
  have k2' := k2.far (p := ⟨w.heap.size + 1 + 1, 0, none⟩) (by simp) (.slice A1 M.mem.length c1)
  have ho1' := ho1.far (b := w.heap.size + 1 + 1) (i := 0) (u := .slice A1 M.mem.length c1) fun k hk => by have := hbs1 k hk; omega
  have hB1' := hB1.setCell (p := ⟨w.heap.size + 1 + 1, 0, none⟩) (by show w.heap.size ≤ w.heap.size + 1 + 1; omega) (.slice A1 M.mem.length c1)
  obtain ⟨hc1, hf1⟩ := k1'.at_ 1 (x := .slice B M.ths.length d) rfl
  obtain ⟨hc3, hf3⟩ := k3.at_ 0 (x := .slice none 0 0) rfl
  have HB1 := Lib.hid hB1'
  have hi1 := ho1'.lt
  clear hB1 hB1' hb1 ho1
  go_wp2_with fail
  refine (toThreadS _ M.ths _ (h.ths.below HB1.out) hst).mono ?_
  rintro e w2 ⟨v2, bs2, rfl, ho2, hbs2, hb2⟩
  obtain ⟨A2, c2, rfl, hcc2, hcm2⟩ := ho2.slice
  have q3 := k3'.below hb2 k3'.lt
  have q2 := k2'.below hb2 k2'.lt
  have hO1 := ho1'.below hb2
  have hB2 := HB1.out.trans (hb2.mono HB1.out.size)
  have hsz2 := k3'.lt
  simp only [World.setCell, Array.size_modify] at hbs2 hsz2 hi1
  have q3' := q3.set_ 1 (.slice A2 M.ths.length c2)
  have q2' := q2.far (p := ⟨w.heap.size + 1 + 1, 1, none⟩) (by simp) (.slice A2 M.ths.length c2)
  have q2a := q2'.set_ 0 (.slice A1 M.mem.length c1)
  have q2b := q2a.set_ 1 (.slice A2 M.ths.length c2)
  obtain ⟨hd2, he2⟩ := q3.at_ 1 (x := .slice none 0 0) rfl
  obtain ⟨hd30, he30⟩ := q3'.at_ 0 (x := .slice A1 M.mem.length c1) rfl
  obtain ⟨hd31, he31⟩ := q3'.at_ 1 (x := .slice A2 M.ths.length c2) rfl
  obtain ⟨hd20, he20⟩ := q2'.at_ 0 (x := .slice none 0 0) rfl
  obtain ⟨hd21, he21⟩ := q2a.at_ 1 (x := .slice none 0 0) rfl
  obtain ⟨z0, -⟩ := q2b.at_ 0 (x := .slice A1 M.mem.length c1) rfl
  obtain ⟨z1, -⟩ := q2b.at_ 1 (x := .slice A2 M.ths.length c2) rfl
  clear hb2 HB1
  have HB2 := Lib.hid hB2
  clear hB2
  go_wp2_with fail
  refine bodyPost_ret (v := .agg #[.slice A1 M.mem.length c1, .slice A2 M.ths.length c2]) (by simp [results, Try.results15, go_sem, z0, z1]) rfl ⟨_, _, bs1 ++ bs2, rfl, OwnMa.mk ?_ ?_ (fun b hb hm => by have := hi1 b hb; have := hbs2 b hm; omega), ?_, ?_⟩
  · exact ((hO1.far fun k hk => by have := hbs1 k hk; omega).far fun k hk => by have := hbs1 k hk; omega).far fun k hk => by have := hbs1 k hk; omega
  · exact ((ho2.far fun k hk => by have := hbs2 k hk; omega).far fun k hk => by have := hbs2 k hk; omega).far fun k hk => by have := hbs2 k hk; omega
  · intro b hb
    rcases List.mem_append.1 hb with hb | hb
    · have := hbs1 b hb
      omega
    · have := hbs2 b hb
      omega
  · exact ((HB2.out.setCell (by show w.heap.size ≤ w.heap.size + 1 + 1; omega) _).setCell (Nat.le_succ _) _).setCell (Nat.le_succ _) _
end Go.Proofs.Ytiflooopfpcelaa
