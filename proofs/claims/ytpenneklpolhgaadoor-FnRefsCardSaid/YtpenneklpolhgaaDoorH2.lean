/- Contracts of chapter 8's model functions (package spec), second part: the copy of a heap, NewHeap, LiveRefs, AllocObj, FreeObj. Conditions: the heap's rows can be read; lengths that a law bounds. -/
import Derived.Test.YtpenneklpolhgaaDoorH1
import Derived.Test.YtpenneklpolhgaaDoorSteps
namespace Go.Proofs.YtpenneklpolhgaaDoor
set_option maxRecDepth 20000
set_option linter.unusedSimpArgs false
set_option linter.unusedVariables false
open Go.ChangeShapes Go.WideShapes Go.ChangeAt Go.RowKit
set_option linter.unusedVariables false
/-- returns a row of truth values of its own -/
def RetBools (L : List Bool) (w : World) (e : Ending) (w' : World) : Prop :=
  ∃ v' bs, e = .returned v' ∧ Own w' v' 1 L.length (bools L) bs ∧ (∀ b ∈ bs, w.heap.size ≤ b) ∧ Below w.heap.size w w'
theorem bools_snoc {xs : List Bool} {k : Nat} {x : Bool} (h : xs[k]? = some x) : bools (xs.take k) ++ [.bool x] = bools (xs.take (k + 1)) := by
  rw [List.take_add_one, h]
  simp [bools]
set_option maxHeartbeats 400000 in
theorem l08Flags (v : Value) (xs : List Bool) (w : World) (h : Rd w v 1 xs.length (bools xs)) (hsz : xs.length ≤ 16777216) :
    Calls Tryd.prog 60 #[v] w (RetBools xs w) := by
  obtain ⟨A, c, rfl, -, hnc, hc, hr⟩ := h
  unfold maxLen at hc
  obtain ⟨i, hi, hiz0, hiz1, hiz2⟩ := info_parts infoBool
  go_enter Tryd.func60, Tryd.ntmps60
  go_wp2_with fail
  go_loopw [3, 4] (fun v i wr => ∃ k : Nat, k ≤ xs.length ∧ i = .int .i64 k ∧ wr.ownsRow w.heap.size 4 1 v k (bools (xs.take k)) ∧ Below w.heap.size w wr) (fun _ i _ => xs.length - (intOf i).toNat)
  case atStart => exact ⟨0, Nat.zero_le _, rfl, World.ownsRow_lit w #[] 0 (Nat.le_refl _) (by simp [maxLen]) rfl, (Below.refl _ _).alloc (Nat.le_refl _) _⟩
  case round =>
    obtain ⟨k, hk, rfl, hO, hB⟩ := hrel
    by_cases hlt : k < xs.length
    · obtain ⟨b, o, rfl, hb, hcell⟩ := hr (by omega)
      have hcell' : ∀ j u, (bools xs)[j]? = some u → wr.cell? ⟨b, o + j, none⟩ = some u := fun j u hu => (hB.cell (p := ⟨b, o + j, none⟩) hb).trans (hcell j u hu)
      obtain ⟨x, hxk, hx⟩ := bool_at hcell' hlt
      clear hcell hcell' hr
      have hbw : b < wr.heap.size := Nat.lt_of_lt_of_le hb hB.size
      go_wp2_with ((at_builtin; refine wpList_append_own _ rfl _ _ 23 rfl (w.heap.size) 4 i (.bool false) 1 1 Tryd.underlying23 hi hiz0 hiz1 hiz2 rfl (by decide) _ _ _ rfl (hO.alloc _) ⟨wr.heap.size, 0, none⟩ 1 1 [.bool x] rfl rfl ?c1 ?c2 ?c3 ?c4 ?c5 ?_))
      case c1 => exact new_cells _ _ _
      case c2 => simp [Value.oneCell']
      case c3 => unfold maxLen; omega
      case c4 => omega
      case c5 => have := hB.size; simp; omega
      intro v' w1 hown' hgrow _
      have hB' := (hB.alloc hB.size _).grown hgrow (by have := hB.size; simp; omega) (fun k hk => by have := (hO.lt k hk).1; omega)
      rw [bools_snoc hxk.out] at hown'
      clear hgrow
      go_wp2_with fail
      exact ⟨⟨k + 1, by omega, by go_num, hown', hB'⟩, by simp [intOf]; omega⟩
    · go_wp2_with fail
      go_ret
      obtain rfl : k = xs.length := by omega
      rw [List.take_length] at hO
      obtain ⟨bs, h1, h2⟩ := Own.of_owns hO
      exact ⟨_, bs, rfl, h1, h2, hB⟩
set_option maxHeartbeats 1600000 in
theorem l08Copy (gv lv : Value) (h : Hp) (w : World) (r : RdHp w gv lv h) (hsz : h.g.length ≤ 16777215 ∧ h.l.length ≤ 16777215) :
    Calls Tryd.prog 33 #[.agg #[gv, lv]] w (RetHp h w) := by
  obtain ⟨A, c, B, d, rfl, rfl, hc1, hd1, hc2, hd2⟩ := r.slices
  obtain ⟨hs1, hs2⟩ := hsz
  have hB := ((Below.refl w.heap.size w).alloc (Nat.le_refl _) (.cells #[.slice A h.g.length c, .slice B h.l.length d] 29)).alloc (by simp) (.cells #[.slice none 0 0, .slice none 0 0] 29)
  have k0 := (Bk.new w #[.slice A h.g.length c, .slice B h.l.length d] 29).alloc (.cells #[.slice none 0 0, .slice none 0 0] 29)
  have k1 := Bk.new (w.alloc (.cells #[.slice A h.g.length c, .slice B h.l.length d] 29)) #[.slice none 0 0, .slice none 0 0] 29
  rw [World.size_alloc] at k1
  obtain ⟨W2, hW2⟩ : ∃ W2, W2 = (w.alloc (.cells #[.slice A h.g.length c, .slice B h.l.length d] 29)).alloc (.cells #[.slice none 0 0, .slice none 0 0] 29) := ⟨_, rfl⟩
  have hz2 : W2.heap.size = w.heap.size + 2 := by rw [hW2]; simp
  rw [← hW2] at hB k0 k1
  have HW2 := Lib.hid hW2
  have HZ2 := Lib.hid hz2
  have HB := Lib.hid hB
  have K0 := Lib.hid k0
  have K1 := Lib.hid k1
  have HR := Lib.hid (r.below hB)
  obtain ⟨x0, -⟩ := k0.at_ 0 (x := .slice A h.g.length c) rfl
  obtain ⟨x1, -⟩ := k0.at_ 1 (x := .slice B h.l.length d) rfl
  obtain ⟨y0, f0⟩ := k1.at_ 0 (x := .slice none 0 0) rfl
  obtain ⟨y1, f1⟩ := k1.at_ 1 (x := .slice none 0 0) rfl
  have l0 := k0.lt
  have l1 := k1.lt
  have HS : Hid (∀ W : World, Below W2.heap.size W2 W → W.cell? ⟨w.heap.size, 0, none⟩ = some (.slice A h.g.length c) ∧ W.cell? ⟨w.heap.size, 1, none⟩ = some (.slice B h.l.length d)) := Lib.hid fun W hW => ⟨((K0.out.below hW l0).at_ 0 rfl).1, ((K0.out.below hW l0).at_ 1 rfl).1⟩
  have HF : Hid (∀ (W : World) (a b : Value), Below W2.heap.size W2 W → ((W.setCell ⟨w.heap.size + 1, 0, none⟩ a).setCell ⟨w.heap.size + 1, 1, none⟩ b).cell? ⟨w.heap.size, 0, none⟩ = some (.slice A h.g.length c) ∧ ((W.setCell ⟨w.heap.size + 1, 0, none⟩ a).setCell ⟨w.heap.size + 1, 1, none⟩ b).cell? ⟨w.heap.size, 1, none⟩ = some (.slice B h.l.length d)) :=
    Lib.hid fun W a b hW => by
      have q := ((K0.out.below hW l0).far (p := ⟨w.heap.size + 1, 0, none⟩) (by simp) a).far (p := ⟨w.heap.size + 1, 1, none⟩) (by simp) b
      exact ⟨(q.at_ 0 rfl).1, (q.at_ 1 rfl).1⟩
  clear hW2 hz2 hB k0 k1 r
  go_enter Tryd.func33, Tryd.ntmps33
  go_wp2_with fail
  rw [← HW2.out]
  go_region_held3 (fun W => W.cell? ⟨w.heap.size, 0, none⟩ = some (.slice A h.g.length c) ∧ W.cell? ⟨w.heap.size, 1, none⟩ = some (.slice B h.l.length d)) (first | (exact HS.out _ (Below.refl _ _).drew) | (exact HS.out _ (by assumption)) | (exact HF.out _ _ _ (by assumption)))
    (first
      | (go_at_call 59; refine (l01Copy _ h.g _ ((HR.out.below (Below.refl _ _).drew).g) (by omega)).mono ?_; rintro e w1 ⟨v1, bs1, rfl, ho1, hbs1, hb1⟩; obtain ⟨A1, c1, rfl, -, -⟩ := ho1.slice; have t1 : Below W2.heap.size W2 w1 := (Below.refl _ W2).drew.trans hb1)
      | (go_at_call 60; refine (l08Flags _ h.l _ ((HR.out.below t1).l) (by omega)).mono ?_; rintro e w2 ⟨v2, bs2, rfl, ho2, hbs2, hb2⟩; obtain ⟨A2, c2, rfl, -, -⟩ := ho2.slice; have t2 : Below W2.heap.size W2 w2 := t1.trans (hb2.mono t1.size); have q2 := K1.out.below t2 K1.out.lt; obtain ⟨y0', f0'⟩ := q2.at_ 0 (x := .slice none 0 0) rfl; obtain ⟨y1', f1'⟩ := q2.at_ 1 (x := .slice none 0 0) rfl))
  have hz := HZ2.out
  have hi1 := ho1.lt
  have hi2 := ho2.lt
  have s1 := t1.size
  have s2 := t2.size
  have hs1' : W2.heap.size = W2.drew.heap.size := rfl
  have qF := (q2.set_ 0 (.slice A1 h.g.length c1)).set_ 1 (.slice A2 h.l.length c2)
  obtain ⟨z0, -⟩ := qF.at_ 0 (x := .slice A1 h.g.length c1) rfl
  obtain ⟨z1, -⟩ := qF.at_ 1 (x := .slice A2 h.l.length c2) rfl
  have hO1 := ho1.below hb2
  have hBt := HB.out.trans (t2.mono HB.out.size)
  clear y0 y1 f0 f1 y0' y1' f0' f1' q2 qF
  go_wp2_with fail
  refine bodyPost_ret (v := .agg #[.slice A1 h.g.length c1, .slice A2 h.l.length c2]) (by simp [results, Tryd.results33, go_sem, z0, z1]) rfl ⟨_, _, bs1 ++ bs2, rfl, OwnHp.mk ?_ ?_ (fun b hb hm => by have := hi1 b hb; have := hbs2 b hm; omega), ?_, ?_⟩
  · exact (hO1.far fun k hk => by have := hbs1 k hk; omega).far fun k hk => by have := hbs1 k hk; omega
  · exact (ho2.far fun k hk => by have := hbs2 k hk; omega).far fun k hk => by have := hbs2 k hk; omega
  · intro b hb
    rcases List.mem_append.1 hb with hb | hb
    · have := hbs1 b hb
      omega
    · have := hbs2 b hb
      omega
  · exact (hBt.setCell (by show w.heap.size ≤ w.heap.size + 1; omega) _).setCell (by show w.heap.size ≤ w.heap.size + 1; omega) _
theorem own_glt {w : World} {g n c size : Nat} {cs : List Value} {bs : List Nat} (h : Own w (.slice (some ⟨g, 0, none⟩) n c) size n cs bs) (hn : 0 < n) : g < w.heap.size := by
  obtain ⟨b, o, c', he, -, hb, -⟩ := h.open_ hn
  injection he with h1
  injection h1 with h1
  injection h1 with h1
  omega
theorem own_g {w : World} {g n c size : Nat} {cs : List Value} {bs : List Nat} (h : Own w (.slice (some ⟨g, 0, none⟩) n c) size n cs bs) : ∀ b ∈ bs, b = g := by
  obtain ⟨A, c', he, -, -, -, ⟨-, rfl⟩ | ⟨-, b, o, hA, rfl, -, -⟩⟩ := h
  · simp
  · injection he with h1
    subst h1
    injection hA with hA
    injection hA with e1
    intro x hx
    rw [List.mem_singleton.1 hx, e1]
theorem upon_make {P : Program} (w : World) {o : Oper} {a : Act} {K : Act → World → Prop} {Q : Exit → Act → World → Prop} (t : TypeId)
    (base : Nat) (e : TypeId) (i : TypeInfo) (z : Value) (size : Nat) (h1 : P.underlying t = some (.slice e)) (h2 : P.info? e = some i) (h3 : i.zero = some z) (h4 : i.size = size)
    (n : Nat) (b2 : i.bytes * n ≤ 281474976710656) (b3 : n ≤ maxLen) (b4 : base ≤ w.heap.size)
    (hK : ∀ w', w'.ownsRow base e size (.slice (some ⟨w.heap.size, 0, none⟩) n n) n (madeCells z.cells (n * size)).toList → w.grownBy w' none → Oper.upon P o a K Q (.ok (.value (.slice (some ⟨w.heap.size, 0, none⟩) n n)) w')) :
    Oper.upon P o a K Q ((Sem.run P (Instr.makeSlice t (.int .i64 n) (.int .i64 n)) w).andThen fun a w' => .ok (.value a) w') := by
  obtain ⟨w', hrun, r1, r2⟩ := run_make_full (P := P) w base t e i z size h1 h2 h3 h4 .i64 .i64 n b2 b3 b4
  rw [hrun]
  exact hK w' r1 r2
theorem newHp_own {W : World} {g0 gx gy k : Nat} {bg bl : List Nat} (h6 : Own W (.slice (some ⟨gx, 0, none⟩) k k) 1 k (List.replicate k (.int .i64 0)) bg) (h7 : Own W (.slice (some ⟨gy, 0, none⟩) k k) 1 k (List.replicate k (.bool false)) bl)
    (hne : gx ≠ gy) (h1 : g0 + 1 ≤ gx) (h2 : g0 + 1 ≤ gy) (a b : Value) :
    OwnHp ((W.setCell ⟨g0, 0, none⟩ a).setCell ⟨g0, 1, none⟩ b) (.slice (some ⟨gx, 0, none⟩) k k) (.slice (some ⟨gy, 0, none⟩) k k) ⟨List.replicate k 0, List.replicate k false⟩ (bg ++ bl) ∧ ∀ x ∈ bg ++ bl, g0 ≤ x := by
  have e6 := own_g h6
  have e7 := own_g h7
  have q6 := (h6.far (b := g0) (i := 0) (u := a) fun x hx => by have := e6 x hx; omega).far (b := g0) (i := 1) (u := b) fun x hx => by have := e6 x hx; omega
  have q7 := (h7.far (b := g0) (i := 0) (u := a) fun x hx => by have := e7 x hx; omega).far (b := g0) (i := 1) (u := b) fun x hx => by have := e7 x hx; omega
  refine ⟨OwnHp.mk (by simpa [ints] using q6) (by simpa [bools] using q7) fun x hx hm => hne ((e6 x hx).symm.trans (e7 x hm)), fun x hx => ?_⟩
  rcases List.mem_append.1 hx with hx | hx
  · have := e6 x hx
    omega
  · have := e7 x hx
    omega
set_option maxHeartbeats 1600000 in
theorem spec_NewHeap (n : Int) (w : World) :
    Calls Tryd.prog 45 #[.int .i64 n] w (RetHpB (newHp n) (inB n 1 24) w) := by
  obtain ⟨i, hi, hiz0, hiz1, hiz2⟩ := info_parts infoInt
  obtain ⟨ib, hib, hb0, hb1, hb2⟩ := info_parts infoBool
  cases hin : inB n 1 24
  · have HN : Hid (newHp n = ⟨[], []⟩) := Lib.hid (by simp [newHp, hin])
    go_enter Tryd.func45, Tryd.ntmps45
    go_wp2_with (go_at_call 35; refine (l01In _ _ _ _).mono ?_; rintro e w' ⟨rfl, rfl⟩)
    exact bodyPost_ret (v := .tuple #[.agg #[.slice none 0 0, .slice none 0 0], .bool false]) (by simp [results, Tryd.results45, go_sem]) rfl ⟨_, _, [] ++ [], rfl, by rw [HN.out]; exact OwnHp.mk (Own.nil _ _) (Own.nil _ _) (by simp), by simp, (Below.refl _ _).alloc (Nat.le_refl _) _⟩
  · obtain ⟨h1, h2⟩ := inB_true hin
    obtain ⟨k, rfl⟩ := Int.eq_ofNat_of_zero_le (show 0 ≤ n by omega)
    have HN : Hid (newHp (k : Int) = ⟨List.replicate k 0, List.replicate k false⟩) := Lib.hid (by simp [newHp, hin])
    have KN : Hid (Bk (w.alloc (.cells #[.slice none 0 0, .slice none 0 0] 29)).drew w.heap.size #[.slice none 0 0, .slice none 0 0] 29) := Lib.hid (Bk.new w #[.slice none 0 0, .slice none 0 0] 29)
    go_enter Tryd.func45, Tryd.ntmps45
    go_wp2_with (go_at_call 35; refine (l01In _ _ _ _).mono ?_; rintro e w' ⟨rfl, rfl⟩)
    have HSZ : Hid (w.heap.size + 1 ≤ ((w.alloc (.cells #[.slice none 0 0, .slice none 0 0] 29)).drew).heap.size) := Lib.hid (by show w.heap.size + 1 ≤ (w.alloc _).heap.size; simp)
    have HB1 : Hid (Below w.heap.size w (w.alloc (.cells #[.slice none 0 0, .slice none 0 0] 29)).drew) := Lib.hid ((Below.refl _ _).alloc (Nat.le_refl _) _).drew
    go_region_with (first
      | (refine upon_make _ 22 (w.heap.size + 1) 3 i (.int .i64 0) 1 Tryd.underlying22 hi hiz0 hiz1 k (by rw [hiz2]; omega) (by unfold maxLen; omega) (by exact HSZ.out) ?_; intro w6 hO6 hg6; have t6 := (Below.refl (w.heap.size + 1) _).grown hg6 (by exact HSZ.out) (by simp); have z6 : w.heap.size + 1 ≤ w6.heap.size := Nat.le_trans HSZ.out t6.size)
      | (refine upon_make _ 22 (w.heap.size + 1) 3 i (.int .i64 0) 1 Tryd.underlying22 hi hiz0 hiz1 k (by rw [hiz2]; omega) (by unfold maxLen; omega) (by exact z7) ?_; intro w6 hO6 hg6; have t6 := (Below.refl (w.heap.size + 1) _).grown hg6 z7 (by simp); have qq := KN.out.below (t7.trans t6) (Nat.lt_succ_self _); obtain ⟨y0, f0⟩ := qq.at_ 0 (x := .slice none 0 0) rfl; obtain ⟨y1, f1⟩ := qq.at_ 1 (x := .slice none 0 0) rfl)
      | (refine upon_make _ 23 (w.heap.size + 1) 4 ib (.bool false) 1 Tryd.underlying23 hib hb0 hb1 k (by rw [hb2]; omega) (by unfold maxLen; omega) (by exact HSZ.out) ?_; intro w7 hO7 hg7; have t7 := (Below.refl (w.heap.size + 1) _).grown hg7 (by exact HSZ.out) (by simp); have z7 : w.heap.size + 1 ≤ w7.heap.size := Nat.le_trans HSZ.out t7.size)
      | (refine upon_make _ 23 (w.heap.size + 1) 4 ib (.bool false) 1 Tryd.underlying23 hib hb0 hb1 k (by rw [hb2]; omega) (by unfold maxLen; omega) (by exact z6) ?_; intro w7 hO7 hg7; have t7 := (Below.refl (w.heap.size + 1) _).grown hg7 z6 (by simp); have qq := KN.out.below (t6.trans t7) (Nat.lt_succ_self _); obtain ⟨y0, f0⟩ := qq.at_ 0 (x := .slice none 0 0) rfl; obtain ⟨y1, f1⟩ := qq.at_ 1 (x := .slice none 0 0) rfl))
    · simp only [Value.cells, toList_madeCells_one, Nat.mul_one] at hO6 hO7
      obtain ⟨b6, ho6, hi6⟩ := Own.of_owns hO6
      obtain ⟨b7, ho7, hi7⟩ := Own.of_owns hO7
      have tt : Below w6.heap.size w6 w7 := (Below.refl _ _).grown hg7 (Nat.le_refl _) (by simp)
      have ho6' := ho6.below tt
      have hB7 := HB1.out.trans ((t6.trans t7).mono (Nat.le_succ _))
      have qF := (qq.set_ 0 (.slice (some ⟨w.heap.size + 1, 0, none⟩) k k)).set_ 1 (.slice (some ⟨w6.heap.size, 0, none⟩) k k)
      obtain ⟨z0, -⟩ := qF.at_ 0 (x := .slice (some ⟨w.heap.size + 1, 0, none⟩) k k) rfl
      obtain ⟨z1, -⟩ := qF.at_ 1 (x := .slice (some ⟨w6.heap.size, 0, none⟩) k k) rfl
      have hlt9 : w.heap.size + 1 < w6.heap.size := own_glt (g := w.heap.size + 1) (by simpa using ho6) (show 0 < k by omega)
      have HE := Lib.hid (newHp_own (g0 := w.heap.size) (gx := w.heap.size + 1) (by simpa using ho6') (by simpa using ho7) (by omega) (Nat.le_refl _) z6 (.slice (some ⟨w.heap.size + 1, 0, none⟩) k k) (.slice (some ⟨w6.heap.size, 0, none⟩) k k))
      clear qq y0 f0 y1 f1 qF tt ho6 ho7 ho6' hO6 hO7 hg6 hg7
      go_wp2_with fail
      exact bodyPost_ret (v := .tuple #[.agg #[.slice (some ⟨w.heap.size + 1, 0, none⟩) k k, .slice (some ⟨w6.heap.size, 0, none⟩) k k], .bool true]) (by simp [results, Tryd.results45, go_sem, z0, z1]) rfl ⟨_, _, _, rfl, by rw [HN.out]; exact HE.out.1, HE.out.2, (hB7.setCell (Nat.le_refl _) _).setCell (Nat.le_refl _) _⟩
    · simp only [Value.cells, toList_madeCells_one, Nat.mul_one] at hO6 hO7
      obtain ⟨b6, ho6, hi6⟩ := Own.of_owns hO6
      obtain ⟨b7, ho7, hi7⟩ := Own.of_owns hO7
      have tt : Below w7.heap.size w7 w6 := (Below.refl _ _).grown hg6 (Nat.le_refl _) (by simp)
      have ho7' := ho7.below tt
      have hB7 := HB1.out.trans ((t7.trans t6).mono (Nat.le_succ _))
      have qF := (qq.set_ 0 (.slice (some ⟨w7.heap.size, 0, none⟩) k k)).set_ 1 (.slice (some ⟨w.heap.size + 1, 0, none⟩) k k)
      obtain ⟨z0, -⟩ := qF.at_ 0 (x := .slice (some ⟨w7.heap.size, 0, none⟩) k k) rfl
      obtain ⟨z1, -⟩ := qF.at_ 1 (x := .slice (some ⟨w.heap.size + 1, 0, none⟩) k k) rfl
      have hlt9 : w.heap.size + 1 < w7.heap.size := own_glt (g := w.heap.size + 1) (by simpa using ho7) (show 0 < k by omega)
      have HE := Lib.hid (newHp_own (g0 := w.heap.size) (gx := w7.heap.size) (gy := w.heap.size + 1) (by simpa using ho6) (by simpa using ho7') (by omega) z7 (Nat.le_refl _) (.slice (some ⟨w7.heap.size, 0, none⟩) k k) (.slice (some ⟨w.heap.size + 1, 0, none⟩) k k))
      clear qq y0 f0 y1 f1 qF tt ho6 ho7 ho7' hO6 hO7 hg6 hg7
      go_wp2_with fail
      exact bodyPost_ret (v := .tuple #[.agg #[.slice (some ⟨w7.heap.size, 0, none⟩) k k, .slice (some ⟨w.heap.size + 1, 0, none⟩) k k], .bool true]) (by simp [results, Tryd.results45, go_sem, z0, z1]) rfl ⟨_, _, _, rfl, by rw [HN.out]; exact HE.out.1, HE.out.2, (hB7.setCell (Nat.le_refl _) _).setCell (Nat.le_refl _) _⟩
end Go.Proofs.YtpenneklpolhgaaDoor
